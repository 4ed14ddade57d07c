package impl

import (
	"cmp"
	"iter"
	"slices"
	"strconv"
	"strings"
)

// Limits of chapter 1.
const (
	MaxValue  = 1000000000
	MaxItems  = 300
	CheckSize = 65129
	MaxMember = 1000
	MaxTick   = 1000000
	MaxText   = 80
	MaxBytes  = 4000
)

const (
	maxName    = 8
	tokenSize  = 16
	digestSize = 32
	lastRounds = 24
	digits     = "0123456789"
	hexDigits  = digits + "abcdef"
	emptyList  = "none"
)

// IsName reports whether s is a name.
func IsName(s string) bool {
	if len(s) < 1 || len(s) > maxName {
		return false
	}
	for _, r := range s {
		if !isSmallLetter(r) {
			return false
		}
	}
	return true
}

// Decimal returns n in decimal.
func Decimal(n int64) string { return strconv.FormatInt(n, 10) }

// ReadDecimal returns the number with the given decimal text.
func ReadDecimal(s string) (int64, bool) {
	n, err := strconv.ParseInt(s, 10, 64)
	// ParseInt also takes "+1", "-0" and "01", which Decimal never writes.
	if err != nil || !isValue(n) || Decimal(n) != s {
		return 0, false
	}
	return n, true
}

// ListText returns the text of a list.
func ListText(list []int64) (string, bool) {
	if len(list) > MaxItems {
		return "", false
	}
	if len(list) == 0 {
		return emptyList, true
	}
	items := make([]string, 0, len(list))
	for _, n := range list {
		if !isValue(n) {
			return "", false
		}
		items = append(items, Decimal(n))
	}
	return strings.Join(items, ","), true
}

// ReadList returns the list with the given text.
func ReadList(s string) ([]int64, bool) {
	if s == emptyList {
		return nil, true
	}
	// One item more than allowed is enough to know that there are too many.
	items := strings.SplitN(s, ",", MaxItems+1)
	if len(items) > MaxItems {
		return nil, false
	}
	list := make([]int64, 0, len(items))
	for _, item := range items {
		n, ok := ReadDecimal(item)
		if !ok {
			return nil, false
		}
		list = append(list, n)
	}
	return list, true
}

// CheckOf returns the check number of a text.
func CheckOf(start int64, s string) (int64, bool) {
	if start < 0 || start >= CheckSize {
		return 0, false
	}
	check := start
	for i := range len(s) {
		check = (433*check + int64(s[i]) + 37) % CheckSize
	}
	return check, true
}

// IsText reports whether s is a text.
func IsText(s string) bool {
	if len(s) > MaxText {
		return false
	}
	for i := range len(s) {
		if s[i] < 32 || s[i] > 126 {
			return false
		}
	}
	return true
}

// IsMembers reports whether a list is a set of members.
func IsMembers(list []int64) bool {
	for i, n := range list {
		if !isMember(n) || i > 0 && list[i-1] >= n {
			return false
		}
	}
	return true
}

// HexText returns the hexadecimal text of bytes.
func HexText(s string) (string, bool) {
	if len(s) > MaxBytes {
		return "", false
	}
	text := make([]byte, 0, 2*len(s))
	for i := range len(s) {
		pair := hexPair(s[i])
		text = append(text, pair[:]...)
	}
	return string(text), true
}

// ReadHex returns the bytes with the given hexadecimal text.
func ReadHex(t string) (string, bool) {
	if len(t)%2 != 0 || len(t) > 2*MaxBytes {
		return "", false
	}
	read := make([]byte, 0, len(t)/2)
	for i := 0; i < len(t); i += 2 {
		pair := [2]byte([]byte(t[i : i+2]))
		b := hexValue(pair[0])<<4 | hexValue(pair[1])
		// hexValue takes any byte: only what hexPair writes is hexadecimal.
		if hexPair(b) != pair {
			return "", false
		}
		read = append(read, b)
	}
	return string(read), true
}

// TokenOf returns the token of a seed and a number.
func TokenOf(seed, number int64) (string, bool) {
	if seed < 0 || seed > MaxValue || number < 0 || number > MaxValue {
		return "", false
	}
	token := tokenBytes(seed, number)
	return string(token[:]), true
}

// IsToken reports whether s is a token.
func IsToken(s string) bool { return len(s) == tokenSize }

// DigestOf returns the digest of bytes.
func DigestOf(s string) (string, bool) {
	if len(s) > MaxBytes {
		return "", false
	}
	digest := digestBytes(s)
	return string(digest[:]), true
}

// IsDigest reports whether s is a digest.
func IsDigest(s string) bool { return len(s) == digestSize }

// ChainOf returns the chained digests of parts.
func ChainOf(before string, parts []string) ([]string, bool) {
	if !IsDigest(before) || len(parts) > MaxItems {
		return nil, false
	}
	last := [digestSize]byte([]byte(before))
	chain := make([]string, 0, len(parts))
	for _, part := range parts {
		if len(part) > MaxBytes-digestSize {
			return nil, false
		}
		last = digestBytes(string(last[:]) + part)
		chain = append(chain, string(last[:]))
	}
	return chain, true
}

// WordsOf returns the words of a text.
func WordsOf(text string) ([]string, bool) {
	if !IsText(text) {
		return nil, false
	}
	var words []string
	for _, word := range runsOf(text) {
		words = append(words, word)
	}
	return words, true
}

// MentionsOf returns the members that a text mentions.
func MentionsOf(text string) ([]int64, bool) {
	if !IsText(text) {
		return nil, false
	}
	var mentions []int64
	pieces := strings.Split(text, "@")
	for _, piece := range pieces[1:] {
		// All digits have to be read at once: @70 does not mention 7.
		n, ok := ReadDecimal(leadingDigits(piece))
		if ok && isMember(n) {
			mentions = append(mentions, n)
		}
	}
	return setOf(mentions), true
}

// JoinSets returns the members of two sets.
func JoinSets(a, b []int64) ([]int64, bool) {
	if !IsMembers(a) || !IsMembers(b) {
		return nil, false
	}
	return setOf(slices.Concat(a, b)), true
}

// LessSet returns the members of one set that are not in another one.
func LessSet(a, b []int64) ([]int64, bool) {
	if !IsMembers(a) || !IsMembers(b) {
		return nil, false
	}
	var rest []int64
	for _, n := range a {
		if _, found := slices.BinarySearch(b, n); !found {
			rest = append(rest, n)
		}
	}
	return rest, true
}

func isValue(n int64) bool { return n >= -MaxValue && n <= MaxValue }

func isMember(n int64) bool { return n >= 1 && n <= MaxMember }

func isTick(n int64) bool { return n >= 0 && n <= MaxTick }

func isSmallLetter(r rune) bool { return 'a' <= r && r <= 'z' }

func isDigit(r rune) bool { return '0' <= r && r <= '9' }

// runsOf yields the runs of letters and digits of a text: where each one begins, and its word, which is as long as it.
func runsOf(text string) iter.Seq2[int, string] {
	return func(yield func(start int, word string) bool) {
		var word []rune
		// The blank ends a run that reaches to the end of the text.
		for i, r := range text + " " {
			switch {
			case 'A' <= r && r <= 'Z':
				r += 'a' - 'A'
				fallthrough
			case isSmallLetter(r), isDigit(r):
				word = append(word, r)
			default:
				if len(word) > 0 && !yield(i-len(word), string(word)) {
					return
				}
				word = word[:0]
			}
		}
	}
}

// leadingDigits returns the digits with which s begins.
func leadingDigits(s string) string {
	return s[:len(s)-len(strings.TrimLeft(s, digits))]
}

// setOf sorts list in place, so list must belong to the caller.
func setOf[T cmp.Ordered](list []T) []T {
	slices.Sort(list)
	return slices.Compact(list)
}

func hexPair(b byte) [2]byte {
	return [2]byte{hexDigits[b>>4], hexDigits[b&15]}
}

// hexValue returns the value of a hexadecimal digit, and some number for any other byte.
func hexValue(c byte) byte {
	if c >= 'a' {
		return c - 'a' + 10
	}
	return c - '0'
}

// tokenBytes is TokenOf without its limits: a simulation has greater seeds.
func tokenBytes(seed, number int64) [tokenSize]byte {
	var token [tokenSize]byte
	x := seed
	for i := range token {
		x = (1103515245*x + 12345 + number) % 2147483648
		token[i] = byte(x / 65536 % 256)
	}
	return token
}

// digestBytes computes in uint32, whose wraparound is the remainder that the words are divided to.
func digestBytes(s string) [digestSize]byte {
	var words [8]uint32
	for j := range words {
		words[j] = 2654435769*uint32(j+1) + uint32(len(s))
	}
	for k := range len(s) {
		mixWord(&words, k, s[k])
	}
	// Rounds with a fixed byte carry the last bytes into all words.
	for r := range lastRounds {
		mixWord(&words, r, 7)
	}
	var digest [digestSize]byte
	for j, word := range words {
		for i := range 4 {
			digest[4*j+i] = byte(word >> (24 - 8*i))
		}
	}
	return digest
}

func mixWord(words *[8]uint32, index int, b byte) {
	j := index % 8
	before := (j + 7) % 8
	words[j] = 16777619 * (words[j] + uint32(b) + words[before])
}
