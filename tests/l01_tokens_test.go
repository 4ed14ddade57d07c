package tests

import (
	"math"
	"math/rand"
	"slices"
	"strconv"
	"strings"
	"testing"

	"loop.example/g01202/impl"
)

func TestIsName(t *testing.T) {
	for _, s := range []string{"a", "z", "room", "abcdefgh"} {
		isBool(t, strconv.Quote(s), impl.IsName(s), true)
	}
	for _, s := range []string{"", "abcdefghi", "A", "Room", "a1", "7", "a b", " a", "a\n", "`", "{", "\x00", "é", "\xe1", strings.Repeat("a", 5000)} {
		isBool(t, strconv.Quote(s), impl.IsName(s), false)
	}
}

func TestDecimal(t *testing.T) {
	want := map[int64]string{
		0: "0", 7: "7", -4: "-4", 10: "10", -100: "-100",
		impl.MaxValue: "1000000000", impl.MaxValue + 1: "1000000001",
		math.MaxInt64: "9223372036854775807", math.MinInt64: "-9223372036854775808",
	}
	for n, s := range want {
		if got := impl.Decimal(n); got != s {
			t.Errorf("Decimal(%d): got %q, want %q", n, got, s)
		}
	}
}

func TestReadDecimal(t *testing.T) {
	for _, want := range []int64{0, 1, -1, 9, 10, -10, 1000, 999999999, impl.MaxValue, -impl.MaxValue} {
		got, ok := impl.ReadDecimal(strconv.FormatInt(want, 10))
		isValue(t, strconv.FormatInt(want, 10), got, ok, want)
	}
	for _, s := range []string{
		"", "-", "+", "-0", "+1", "00", "01", "-01", "--1", " 1", "1 ", "1\n", "1,", "1.0", "1_0", "0x1", "1e3", "a", "٣", "\x00", "1\x00",
		"1000000001", "-1000000001", "9223372036854775807", "-9223372036854775808", "9223372036854775808", "18446744073709551617",
		strings.Repeat("1", 5000), strings.Repeat("0", 5000),
	} {
		got, ok := impl.ReadDecimal(s)
		isNothing(t, strconv.Quote(s), got, ok)
	}
}

func TestListText(t *testing.T) {
	for _, c := range []struct {
		list []int64
		want string
	}{
		{nil, "none"}, {[]int64{}, "none"}, {[]int64{0}, "0"}, {[]int64{3, -4, 3}, "3,-4,3"},
		{[]int64{impl.MaxValue, -impl.MaxValue}, "1000000000,-1000000000"},
		{make([]int64, impl.MaxItems), strings.Repeat("0,", impl.MaxItems-1) + "0"},
	} {
		got, ok := impl.ListText(c.list)
		isValue(t, c.want, got, ok, c.want)
	}
	for _, list := range [][]int64{
		make([]int64, impl.MaxItems+1), {impl.MaxValue + 1}, {-impl.MaxValue - 1}, {1, 2, math.MaxInt64}, {math.MinInt64, 0},
	} {
		got, ok := impl.ListText(list)
		isNothing(t, "ListText of an invalid list", got, ok)
	}
}

func TestReadList(t *testing.T) {
	got, ok := impl.ReadList("none")
	isList(t, "none", got, ok)
	got, ok = impl.ReadList("0")
	isList(t, "0", got, ok, 0)
	got, ok = impl.ReadList("3,-4,3,1000000000,-1000000000")
	isList(t, "five numbers", got, ok, 3, -4, 3, impl.MaxValue, -impl.MaxValue)
	got, ok = impl.ReadList(strings.Repeat("0,", impl.MaxItems-1) + "0")
	isList(t, "MaxItems zeros", got, ok, make([]int64, impl.MaxItems)...)
	for _, s := range []string{
		"", ",", "1,", ",1", "1,,2", "1, 2", "1 2", "none,1", "1,none", "none ", "None", "01", "1,-0", "1,+2", "1000000001", "1,-1000000001", "1;2", "1\n", "\x00",
		strings.Repeat("0,", impl.MaxItems) + "0", strings.Repeat("0,", impl.MaxItems-1) + "x", strings.Repeat(",", 5000),
	} {
		got, ok := impl.ReadList(s)
		isNoList(t, strconv.Quote(s), got, ok)
	}
}

func TestCheckOf(t *testing.T) {
	for _, c := range []struct {
		start int64
		s     string
		want  int64
	}{
		{0, "", 0}, {impl.CheckSize - 1, "", impl.CheckSize - 1}, {0, "a", 134}, {134, "b", 58157}, {0, "ab", 58157}, {0, "room 7", 51780},
		{0, "\x00", 37}, {impl.CheckSize - 1, "\xff\xff", 4368}, {5, "\x80\n,", 49599},
	} {
		got, ok := impl.CheckOf(c.start, c.s)
		isValue(t, strconv.Quote(c.s), got, ok, c.want)
	}
	for _, start := range []int64{-1, impl.CheckSize, math.MinInt64, math.MaxInt64} {
		for _, s := range []string{"", "a"} {
			got, ok := impl.CheckOf(start, s)
			isNothing(t, "CheckOf with a wrong start", got, ok)
		}
	}
}

// A text of any length has a check number: that of its end begins with that of its beginning.
func TestCheckOfGoesOn(t *testing.T) {
	long := strings.Repeat(allBytes(), 40)
	for _, cut := range []int{0, 1, 256, 5000, len(long)} {
		first, _ := impl.CheckOf(3, long[:cut])
		got, ok := impl.CheckOf(first, long[cut:])
		want, _ := impl.CheckOf(3, long)
		isValue(t, "both parts", got, ok, want)
	}
}

func TestIsText(t *testing.T) {
	for _, s := range []string{"", " ", "~", "a b", "Hi, room 7!", strings.Repeat("x", impl.MaxText)} {
		isBool(t, strconv.Quote(s), impl.IsText(s), true)
	}
	for b := range 256 {
		isBool(t, "byte "+strconv.Itoa(b), impl.IsText("a"+string([]byte{byte(b)})), b >= 32 && b <= 126)
	}
	for _, s := range []string{strings.Repeat("x", impl.MaxText+1), "a\n", "\x00", "é", strings.Repeat("x", 100000)} {
		isBool(t, strconv.Quote(s[:1]), impl.IsText(s), false)
	}
}

func TestIsMembers(t *testing.T) {
	for _, list := range [][]int64{nil, {}, {1}, {impl.MaxMember}, {1, 2, 70, impl.MaxMember}, upTo(impl.MaxItems), upTo(impl.MaxItems + 1), upTo(impl.MaxMember)} {
		isBool(t, "a set", impl.IsMembers(list), true)
	}
	for _, list := range [][]int64{{0}, {-1}, {impl.MaxMember + 1}, {1, 1}, {2, 1}, {1, 3, 2}, {0, 1}, upTo(impl.MaxMember + 1), {math.MinInt64, 1}, {1, math.MaxInt64}} {
		isBool(t, "no set", impl.IsMembers(list), false)
	}
}

func TestHexText(t *testing.T) {
	for s, want := range map[string]string{"": "", "az": "617a", "\x00": "00", "\x00\xff\x0a\xf0": "00ff0af0", "é": "c3a9"} {
		got, ok := impl.HexText(s)
		isValue(t, strconv.Quote(s), got, ok, want)
	}
	got, ok := impl.HexText(strings.Repeat("\xab", impl.MaxBytes))
	isValue(t, "MaxBytes bytes", got, ok, strings.Repeat("ab", impl.MaxBytes))
	got, ok = impl.HexText(strings.Repeat("a", impl.MaxBytes+1))
	isNothing(t, "too many bytes", got, ok)
}

func TestReadHex(t *testing.T) {
	for s, want := range map[string]string{"": "", "617a": "az", "00": "\x00", "00ff0af0": "\x00\xff\x0a\xf0"} {
		got, ok := impl.ReadHex(s)
		isValue(t, strconv.Quote(s), got, ok, want)
	}
	got, ok := impl.ReadHex(strings.Repeat("cd", impl.MaxBytes))
	isValue(t, "MaxBytes bytes", got, ok, strings.Repeat("\xcd", impl.MaxBytes))
	for _, s := range []string{"6", "617", "61z", "61zz", "6A", "A6", "0x61", " 61", "61 ", "6 1", "g0", "0g", "-1", "\x00\x00", "::", "\xff\xff", strings.Repeat("ab", impl.MaxBytes+1)} {
		got, ok := impl.ReadHex(s)
		isNothing(t, strconv.Quote(s), got, ok)
	}
}

// Of all pairs of bytes, just the HexText of each byte is read.
func TestReadHexOfAllPairs(t *testing.T) {
	const hexDigits = "0123456789abcdef"
	for high := range 256 {
		for low := range 256 {
			h, l := strings.IndexByte(hexDigits, byte(high)), strings.IndexByte(hexDigits, byte(low))
			s := string([]byte{byte(high), byte(low)})
			got, ok := impl.ReadHex(s)
			if h < 0 || l < 0 {
				isNothing(t, strconv.Quote(s), got, ok)
			} else {
				isValue(t, strconv.Quote(s), got, ok, string([]byte{byte(16*h + l)}))
			}
		}
	}
}

func TestTokenOf(t *testing.T) {
	for _, c := range []struct {
		seed, number int64
		want         string
	}{
		{0, 0, "00dc0465aa1fad1d5adae5ac1b1e5f13"},
		{1, 2, "c60b53382618b83b50e6e5b8bb1cdd88"},
		{7, 7, "6cba52e18f0a0e8fa2e9db091b12e1c5"},
		{impl.MaxValue, impl.MaxValue, "0eebdcbab25b6dc8b739155d606d7e13"},
		{impl.MaxValue, 0, "74dccce25c5331070cdcb62db0282ff4"},
		{0, impl.MaxValue, "9aea133d0027e9de053744dccc63ad32"},
	} {
		got, ok := impl.TokenOf(c.seed, c.number)
		isValue(t, "token", got, ok, fromHex(t, c.want))
		isBool(t, "IsToken", impl.IsToken(got), true)
	}
	for _, c := range [][2]int64{{-1, 2}, {2, -1}, {impl.MaxValue + 1, 0}, {0, impl.MaxValue + 1}, {math.MinInt64, math.MaxInt64}, {math.MaxInt64, 0}} {
		got, ok := impl.TokenOf(c[0], c[1])
		isNothing(t, "token of invalid numbers", got, ok)
	}
}

func TestIsTokenAndIsDigest(t *testing.T) {
	for size := range 70 {
		for _, b := range []string{"\x00", "a", "\xff"} {
			s := strings.Repeat(b, size)
			isBool(t, "token of size "+strconv.Itoa(size), impl.IsToken(s), size == 16)
			isBool(t, "digest of size "+strconv.Itoa(size), impl.IsDigest(s), size == 32)
		}
	}
}

func TestDigestOf(t *testing.T) {
	for s, want := range map[string]string{
		"":                                 "ff5390f8c9c87cf85ce7f4641f7761c392aeb5b91e3a5971c73c01bf7d5df5fa",
		"a":                                "25b4a6d4d23693a05f4796108898c516bf73c09370410c890a7f9d7593e0f521",
		"b":                                "5236cb9100f168de597bcbb8ba920e9391666d5ab45711c189ee16af5e6ebf70",
		"\x00":                             "4864bb371d6bc722917f41689923ecb93280492ca3e91251c1a3ae7bd4274d32",
		"\x00\x00":                         "ed9c21dda28d32438374494efd54124127f125682eac6102d64d54b3e53d96be",
		"\xff":                             "9e07537aa9862fe4cb80b3c06074203c533a636575d84519b0ae6f419763d1e3",
		"abcdefgh":                         "4ac717232377eb9b27096bc1a61051089c49024f98d2b8936d9b66115def5bf8",
		"abcdefghi":                        "d1f5eb66600e4316801754e28dfa10ecaafd708bd4cd58dd2bed1471ef51b599",
		"hello, room":                      "0b734b81be6b4820319deb8d04258acbd933e9a6b3ba9d19df3cf133dbd5bb2a",
		allBytes():                         "1228073c99340ea00465e7507f1b7783aeacdf337eeb9707d8b3e285df25373c",
		strings.Repeat("x", impl.MaxBytes): "79d3777fcba39210fd303122c4464c2d6dc0fccadc1ca1aca946f9b871711c7d",
	} {
		got, ok := impl.DigestOf(s)
		isValue(t, strconv.Quote(s), got, ok, fromHex(t, want))
		isBool(t, "IsDigest", impl.IsDigest(got), true)
	}
	got, ok := impl.DigestOf(strings.Repeat("x", impl.MaxBytes+1))
	isNothing(t, "too many bytes", got, ok)
}

func TestChainOf(t *testing.T) {
	before, _ := impl.DigestOf("")
	got, ok := impl.ChainOf(before, []string{"a", "b", "", "\xff\x00"})
	isList(t, "four parts", got, ok,
		fromHex(t, "44965eef1124cb7f90df9d48dbc786c5365a95a71d525a141fb1d4dd335a5ca8"),
		fromHex(t, "835012c5e0e7736b656d2ddf9f52fd34c6199c82f7f0f57ebf0093acf23b3579"),
		fromHex(t, "d6ad6c8ef1a61491842ac2f095068702374340126498f3b8baddbcf76b79d987"),
		fromHex(t, "aa63ba7772d26aacb69f748d8e2e05bdd17740e0070ea306c326e1ba9203a9b1"))
	got, ok = impl.ChainOf(before, nil)
	isList(t, "no parts", got, ok)
	longest := strings.Repeat("y", impl.MaxBytes-32)
	got, ok = impl.ChainOf(strings.Repeat("\x00", 32), []string{longest})
	isList(t, "the longest part", got, ok, fromHex(t, "dd78ee688c2beedaaeaac8a2191497d42d87174303d51fc4e8af6f32cde7a722"))
	got, ok = impl.ChainOf(before, make([]string, impl.MaxItems))
	if !ok || len(got) != impl.MaxItems {
		t.Errorf("MaxItems parts: got %d digests, %v", len(got), ok)
	}
	for _, c := range []struct {
		before string
		parts  []string
	}{
		{"", nil}, {before[:31], []string{"a"}}, {before + "a", []string{"a"}}, {before[:16], nil},
		{before, []string{longest + "y"}}, {before, []string{"a", longest + "y", "b"}}, {before, make([]string, impl.MaxItems+1)},
	} {
		got, ok := impl.ChainOf(c.before, c.parts)
		isNoList(t, "an invalid chain", got, ok)
	}
}

func TestWordsOf(t *testing.T) {
	for text, want := range map[string][]string{
		"": nil, " ": nil, "!?@[`{/:~": nil, "Hi, room 7!": {"hi", "room", "7"}, "a": {"a"}, " a ": {"a"}, "AZ az 09": {"az", "az", "09"},
		"a1B2": {"a1b2"}, "no-no no": {"no", "no", "no"}, "it's @7": {"it", "s", "7"}, "--x--Y": {"x", "y"}, "room7 room 7": {"room7", "room", "7"},
		strings.Repeat("Q", impl.MaxText): {strings.Repeat("q", impl.MaxText)}, "a_b": {"a", "b"}, "007": {"007"},
	} {
		got, ok := impl.WordsOf(text)
		isList(t, strconv.Quote(text), got, ok, want...)
	}
	got, ok := impl.WordsOf(strings.Repeat("a ", impl.MaxText/2))
	isList(t, "the most words", got, ok, slices.Repeat([]string{"a"}, impl.MaxText/2)...)
	for _, text := range []string{strings.Repeat("a", impl.MaxText+1), "a\nb", "\x00", "é", "a\x7f"} {
		got, ok := impl.WordsOf(text)
		isNoList(t, strconv.Quote(text), got, ok)
	}
}

func TestWordsOfKnowsAllBytes(t *testing.T) {
	for b := byte(32); b <= 126; b++ {
		s := string([]byte{b})
		got, ok := impl.WordsOf("x " + s + " x")
		if strings.Contains("abcdefghijklmnopqrstuvwxyzABCDEFGHIJKLMNOPQRSTUVWXYZ0123456789", s) {
			isList(t, strconv.Quote(s), got, ok, "x", strings.ToLower(s), "x")
		} else {
			isList(t, strconv.Quote(s), got, ok, "x", "x")
		}
	}
}

func TestMentionsOf(t *testing.T) {
	for text, want := range map[string][]int64{
		"": nil, "7": nil, "@": nil, "@@": nil, "@a7": nil, "@ 7": nil, "@-7": nil, "@+7": nil, "7@": nil,
		"@7 and @70": {7, 70}, "@70 and @7": {7, 70}, "@7 @7 @7": {7}, "@70": {70}, "@7": {7}, "@7a": {7}, "@7,8": {7}, "@7@8": {7, 8}, "1@7": {7}, "a@7": {7},
		"@@7": {7}, "@7@": {7}, "(@12)": {12}, "@1.5": {1}, "@7-8": {7}, "7@8 9@10": {8, 10},
		"@0": nil, "@07": nil, "@007": nil, "@00": nil, "@1000": {1000}, "@1001": nil, "@10000": nil, "@999": {999},
		"@18446744073709551617 @1": {1}, "@" + strings.Repeat("1", impl.MaxText-1): nil, "@300 @20 @1": {1, 20, 300},
	} {
		got, ok := impl.MentionsOf(text)
		isList(t, strconv.Quote(text), got, ok, want...)
	}
	for _, text := range []string{"@7\n", "@7 " + strings.Repeat("a", impl.MaxText-2), "@7\x00", "é @7"} {
		got, ok := impl.MentionsOf(text)
		isNoList(t, strconv.Quote(text), got, ok)
	}
}

func TestMentionsOfEachMember(t *testing.T) {
	for n := int64(0); n <= impl.MaxMember+10; n++ {
		got, ok := impl.MentionsOf("hi @" + strconv.FormatInt(n, 10))
		if n >= 1 && n <= impl.MaxMember {
			isList(t, strconv.FormatInt(n, 10), got, ok, n)
		} else {
			isList(t, strconv.FormatInt(n, 10), got, ok)
		}
	}
}

func TestJoinSetsAndLessSet(t *testing.T) {
	for _, c := range []struct{ a, b, join, less []int64 }{
		{nil, nil, nil, nil},
		{[]int64{1, 3}, []int64{2, 3}, []int64{1, 2, 3}, []int64{1}},
		{[]int64{1, 2}, nil, []int64{1, 2}, []int64{1, 2}},
		{nil, []int64{1, 2}, []int64{1, 2}, nil},
		{[]int64{5, 9}, []int64{5, 9}, []int64{5, 9}, nil},
		{[]int64{500, impl.MaxMember}, []int64{1, 7}, []int64{1, 7, 500, impl.MaxMember}, []int64{500, impl.MaxMember}},
		{[]int64{1, 4, 6}, []int64{2, 4, 8}, []int64{1, 2, 4, 6, 8}, []int64{1, 6}},
		{upTo(impl.MaxMember), upTo(impl.MaxMember - 1), upTo(impl.MaxMember), []int64{impl.MaxMember}},
	} {
		got, ok := impl.JoinSets(c.a, c.b)
		isList(t, "JoinSets", got, ok, c.join...)
		got, ok = impl.LessSet(c.a, c.b)
		isList(t, "LessSet", got, ok, c.less...)
	}
	for _, bad := range [][]int64{{0}, {-3}, {impl.MaxMember + 1}, {2, 2}, {3, 1}, {math.MaxInt64}} {
		for _, c := range [][2][]int64{{bad, nil}, {nil, bad}, {bad, {1}}, {{1}, bad}} {
			got, ok := impl.JoinSets(c[0], c[1])
			isNoList(t, "JoinSets", got, ok)
			got, ok = impl.LessSet(c[0], c[1])
			isNoList(t, "LessSet", got, ok)
		}
	}
}

// Promise 2: bytes of which one is another one have other digests.
func TestDigestsTellBytesApart(t *testing.T) {
	rounds := rand.New(rand.NewSource(1))
	for _, size := range []int{1, 2, 7, 8, 9, 31, 64, 300, impl.MaxBytes} {
		b := make([]byte, size)
		for range 3 {
			rounds.Read(b)
			for _, at := range []int{0, size / 2, size - 1} {
				seen := map[string]bool{}
				for range 256 {
					b[at]++
					digest, ok := impl.DigestOf(string(b))
					if !ok || seen[digest] {
						t.Fatalf("size %d, byte %d: the digest of another byte, %v", size, at, ok)
					}
					seen[digest] = true
				}
			}
		}
	}
}

// A byte more or less, also one that is 0, makes another digest, and so does another order.
func TestDigestsTellLengthsAndOrdersApart(t *testing.T) {
	seen := map[string]int{}
	for size := range 600 {
		digest, ok := impl.DigestOf(strings.Repeat("\x00", size))
		if before, found := seen[digest]; found || !ok {
			t.Fatalf("%d and %d bytes that are 0 have one digest, %v", before, size, ok)
		}
		seen[digest] = size
	}
	one, _ := impl.DigestOf("ab")
	other, _ := impl.DigestOf("ba")
	isBool(t, "ab and ba", one == other, false)
}

// Promise 2 for chains: a part that is changed changes its digest and all behind it, and none before it.
func TestChainsTellPartsApart(t *testing.T) {
	before, _ := impl.DigestOf("start")
	parts := []string{"one", "", "three", "four"}
	chain, ok := impl.ChainOf(before, parts)
	isBool(t, "chain", ok, true)
	for at := range parts {
		other := slices.Clone(parts)
		other[at] += "x"
		got, ok := impl.ChainOf(before, other)
		isBool(t, "other chain", ok && len(got) == len(chain), true)
		for i := range got {
			isBool(t, "same digest", got[i] == chain[i], i < at)
		}
	}
	for i, part := range parts {
		want, _ := impl.DigestOf(before + part)
		isBool(t, "link", chain[i] == want, true)
		before = chain[i]
	}
}

// Promise 2: texts are read back.
func TestTextsAreReadBack(t *testing.T) {
	rounds := rand.New(rand.NewSource(2))
	for range 2000 {
		n := rounds.Int63n(2*impl.MaxValue+1) - impl.MaxValue
		n /= []int64{1, 10, 1000, 100000000}[rounds.Intn(4)]
		number, ok := impl.ReadDecimal(impl.Decimal(n))
		isValue(t, "decimal", number, ok, n)

		list := make([]int64, rounds.Intn(12))
		for i := range list {
			list[i] = rounds.Int63n(2*impl.MaxValue+1) - impl.MaxValue
		}
		text, ok := impl.ListText(list)
		isBool(t, "ListText", ok, true)
		back, ok := impl.ReadList(text)
		isList(t, text, back, ok, list...)

		b := make([]byte, rounds.Intn(40))
		rounds.Read(b)
		text, ok = impl.HexText(string(b))
		isBool(t, "HexText", ok, true)
		bytes, ok := impl.ReadHex(text)
		isValue(t, text, bytes, ok, string(b))
	}
	text, _ := impl.HexText(allBytes())
	bytes, ok := impl.ReadHex(text)
	isValue(t, text, bytes, ok, allBytes())
}

// Promise 2, the other way: what is read is written as the same text, so no two texts are read as one.
func TestWhatIsReadIsWrittenAgain(t *testing.T) {
	rounds := rand.New(rand.NewSource(3))
	const letters = "0123456789,-+ anoef"
	for range 50000 {
		b := make([]byte, rounds.Intn(7))
		for i := range b {
			b[i] = letters[rounds.Intn(len(letters))]
		}
		s := string(b)
		if n, ok := impl.ReadDecimal(s); ok {
			isBool(t, strconv.Quote(s), impl.Decimal(n) == s, true)
		}
		if list, ok := impl.ReadList(s); ok {
			text, ok := impl.ListText(list)
			isValue(t, "list", text, ok, s)
		}
		if bytes, ok := impl.ReadHex(s); ok {
			text, ok := impl.HexText(bytes)
			isValue(t, "hex", text, ok, s)
		}
	}
}
