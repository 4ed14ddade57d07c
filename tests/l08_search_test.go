package tests

import (
	"cmp"
	"fmt"
	"maps"
	"math"
	"math/rand"
	"regexp"
	"slices"
	"strings"
	"testing"

	"loop.example/g01202/impl"
)

func entry(word string, numbers ...int64) impl.Entry {
	return impl.Entry{Word: word, Numbers: numbers}
}

func indexWith(entries ...impl.Entry) impl.Index { return impl.Index{Entries: entries} }

// pets has words in capital letters, digits next to letters, and the words big and dog in more than one message.
// The messages 5 and 6 have no words; 6 is gone.
func pets() impl.Log {
	l := impl.Log{Next: 12, Messages: []impl.Message{
		said(1, 7, 0, "Big cat, big dog", 0), said(3, 8, 5, "a DOG", 1), said(4, 9, 5, "no cat7 7cat 7", 0), said(5, 7, 5, "?! --", 4), gone(6, 8, 90, 1, 0),
		said(8, 7, 100, "dog", 0), said(9, 9, 105, "the big, BIG dog", 0), said(11, impl.MaxMember, 105, "dogs", 9),
	}}
	at(&l, 3).Likes, at(&l, 8).Likes = []int64{7, 9}, []int64{8}
	return l
}

func petIndex() impl.Index {
	return indexWith(
		entry("7", 4), entry("7cat", 4), entry("a", 3), entry("big", 1, 9), entry("cat", 1), entry("cat7", 4),
		entry("dog", 1, 3, 8, 9), entry("dogs", 11), entry("no", 4), entry("the", 9))
}

func copyOfIndex(ix impl.Index) impl.Index {
	ix.Entries = slices.Clone(ix.Entries)
	for i, e := range ix.Entries {
		ix.Entries[i].Numbers = slices.Clone(e.Numbers)
	}
	return ix
}

// butIndex returns petIndex, changed in one way.
func butIndex(change func(ix *impl.Index)) impl.Index {
	ix := copyOfIndex(petIndex())
	change(&ix)
	return ix
}

// indexText writes an index out; an empty list and nil are the same.
func indexText(ix impl.Index) string { return fmt.Sprintf("%+q", fmt.Sprintf("%+v", ix)) }

func isIndex(t *testing.T, what string, got impl.Index, ok bool, want impl.Index) {
	t.Helper()
	if !ok || indexText(got) != indexText(want) {
		t.Errorf("%s: got %v %v, want %v true", what, indexText(got), ok, indexText(want))
	}
}

func isNoIndex(t *testing.T, what string, got impl.Index, ok bool) {
	t.Helper()
	isIndex(t, what, got, !ok, impl.Index{})
}

// notWords are strings that are no words.
func notWords() []string {
	return []string{
		"", "Dog", "DOG", "doG", "big dog", " dog", "dog ", "dog!", "-", "dög", "dog\n", "\x00", "\xff", "dog\xff", "@", "[", "`", "{", "/", ":", "a@", "a[", "a`", "a{", "a/", "a:",
		strings.Repeat("x", impl.MaxText+1), strings.Repeat("7", 10000),
	}
}

// longWord is as long as a word may be.
func longWord() string { return strings.Repeat("x7", impl.MaxText/2) }

// notQueries are lists of words that are no queries.
func notQueries() map[string][]string {
	bad := map[string][]string{"no words": nil, "an empty list": {}, "9 words": strings.Fields("big dog cat a no the 7 dogs big"), "a word 9 times": slices.Repeat([]string{"dog"}, impl.MaxQuery+1), "20000 words": slices.Repeat([]string{"dog"}, 20000)}
	for i, word := range notWords() {
		bad[fmt.Sprintf("%d. %.20q", i, word)] = []string{word}
		bad[fmt.Sprintf("%d. dog and %.20q", i, word)] = []string{"dog", word}
		bad[fmt.Sprintf("%d. %.20q and dog", i, word)] = []string{word, "dog"}
	}
	return bad
}

// badIndices are indices that are not valid, some of them in just one field of one entry.
func badIndices() map[string]impl.Index {
	bad := map[string]impl.Index{"an empty entry": indexWith(entry("")), "20000 empty entries": {Entries: make([]impl.Entry, 20000)}}
	for name, change := range map[string]func(ix *impl.Index){
		"no numbers":                 func(ix *impl.Index) { ix.Entries[3].Numbers = nil },
		"an empty list of numbers":   func(ix *impl.Index) { ix.Entries[9].Numbers = []int64{} },
		"the number 0":               func(ix *impl.Index) { ix.Entries[0].Numbers[0] = 0 },
		"the number 0 in front":      func(ix *impl.Index) { ix.Entries[6].Numbers[0] = 0 },
		"the number -1":              func(ix *impl.Index) { ix.Entries[6].Numbers[0] = -1 },
		"the least number":           func(ix *impl.Index) { ix.Entries[6].Numbers[0] = math.MinInt64 },
		"a number too great":         func(ix *impl.Index) { ix.Entries[6].Numbers[3] = impl.MaxValue + 1 },
		"the greatest number":        func(ix *impl.Index) { ix.Entries[6].Numbers[3] = math.MaxInt64 },
		"numbers as great":           func(ix *impl.Index) { ix.Entries[6].Numbers[2] = 3 },
		"numbers fall":               func(ix *impl.Index) { ix.Entries[6].Numbers[2] = 2 },
		"the last number falls":      func(ix *impl.Index) { ix.Entries[6].Numbers[3] = 7 },
		"41 numbers":                 func(ix *impl.Index) { ix.Entries[6].Numbers = upTo(impl.MaxMessages + 1) },
		"20000 numbers":              func(ix *impl.Index) { ix.Entries[6].Numbers = upTo(20000) },
		"an entry twice":             func(ix *impl.Index) { ix.Entries[4] = entry("big", 1, 9) },
		"a word twice":               func(ix *impl.Index) { ix.Entries[9] = entry("no", 5) },
		"another order":              func(ix *impl.Index) { ix.Entries[6], ix.Entries[7] = ix.Entries[7], ix.Entries[6] },
		"another order at the end":   func(ix *impl.Index) { ix.Entries[9].Word = "dogsx" },
		"another order in the front": func(ix *impl.Index) { ix.Entries[0].Word = "8" },
	} {
		bad[name] = butIndex(change)
	}
	for i, word := range notWords() {
		// Where all other words stand on the right side of this one, it alone makes the index a bad one.
		less := func(e impl.Entry) bool { return e.Word < word }
		ix := petIndex()
		ix.Entries = append(slices.DeleteFunc(ix.Entries, func(e impl.Entry) bool { return !less(e) }), entry(word, 5))
		bad[fmt.Sprintf("%d. %.20q behind words", i, word)] = ix
		ix = petIndex()
		ix.Entries = append([]impl.Entry{entry(word, 5)}, slices.DeleteFunc(ix.Entries, less)...)
		bad[fmt.Sprintf("%d. %.20q in front of words", i, word)] = ix
	}
	return bad
}

// The examples of chapter 8.
func TestExamplesOfSearch(t *testing.T) {
	text := "Big cat, big dog"
	l, number, ok := impl.PostMessage(impl.Log{Next: 1}, 7, 9, text, 0)
	isValue(t, "its number", number, ok, 1)
	phrase, ok := impl.FindPhrase(l, []string{"cat", "big"})
	isList(t, "the phrase", phrase, ok, 1)
	points, ok := impl.PointsFor(l.Messages[0], []string{"big"}, 9)
	isValue(t, "points for big", points, ok, 20)
	marked, ok := impl.MarkWords(text, []string{"big"})
	isValue(t, "marked", marked, ok, "[Big] cat, [big] dog")
}

func TestConstantsOfSearch(t *testing.T) {
	isList(t, "limits", []int64{impl.MaxQuery}, true, 8)
}

func TestValidIndex(t *testing.T) {
	for name, ix := range map[string]impl.Index{
		"pets": petIndex(), "no entries": {}, "an empty list of entries": {Entries: []impl.Entry{}}, "one entry": indexWith(entry("dog", 3)), "the least number": indexWith(entry("dog", 1)),
		"the greatest number": indexWith(entry("dog", impl.MaxValue)), "both": indexWith(entry("dog", 1, impl.MaxValue)), "40 numbers": indexWith(entry("dog", upTo(impl.MaxMessages)...)),
		"a word of 80 bytes": indexWith(entry(longWord(), 1)), "words of one byte": indexWith(entry("0", 1), entry("9", 1), entry("a", 1), entry("z", 1)), "digits before letters": indexWith(entry("99", 2), entry("9a", 1)),
		"a word that begins with another one": indexWith(entry("dog", 2), entry("dog0", 1), entry("doga", 1)), "greater numbers first": indexWith(entry("a", 9, 10), entry("b", 1, 2)),
	} {
		isBool(t, name, impl.ValidIndex(ix), true)
	}
	for name, ix := range badIndices() {
		isBool(t, name, impl.ValidIndex(ix), false)
	}
	// There is no limit for the number of entries.
	many := impl.Index{}
	for i := range 2000 {
		many.Entries = append(many.Entries, entry(fmt.Sprintf("w%04d", i), upTo(40)...))
	}
	isBool(t, "2000 entries", impl.ValidIndex(many), true)
	words, ok := impl.WordsFrom(many, "w0")
	isValue(t, "many words", len(words), ok, 1000)
	words, ok = impl.CommonWords(many, impl.MaxItems)
	isValue(t, "the greatest count of words", len(words), ok, impl.MaxItems)
	added, ok := impl.IndexMessage(many, said(40, 7, 0, "w1999 zebra", 0))
	isIndex(t, "one entry more", added, ok, impl.Index{Entries: append(copyOfIndex(many).Entries, entry("zebra", 40))})
}

func TestSameIndex(t *testing.T) {
	others := []impl.Index{petIndex(), {}, indexWith(entry("")), indexWith(entry("", 0)), indexWith(entry("dog", 3)), indexWith(entry("dog", 3), entry("dog", 3))}
	for _, change := range []func(ix *impl.Index){
		func(ix *impl.Index) { ix.Entries[9].Word = "then" },
		func(ix *impl.Index) { ix.Entries[0].Word = "07" },
		func(ix *impl.Index) { ix.Entries[6].Numbers[0] = 2 },
		func(ix *impl.Index) { ix.Entries[6].Numbers[3] = 10 },
		func(ix *impl.Index) { ix.Entries[6].Numbers = ix.Entries[6].Numbers[:3] },
		func(ix *impl.Index) { ix.Entries[9].Numbers = append(ix.Entries[9].Numbers, 11) },
		func(ix *impl.Index) { ix.Entries[9].Numbers = nil },
		func(ix *impl.Index) { ix.Entries = ix.Entries[:9] },
		func(ix *impl.Index) { ix.Entries = ix.Entries[1:] },
		func(ix *impl.Index) { slices.Reverse(ix.Entries) },
	} {
		others = append(others, butIndex(change))
	}
	bad := badIndices()
	for _, name := range slices.Sorted(maps.Keys(bad)) {
		others = append(others, bad[name])
	}
	texts := make([]string, len(others))
	for i, a := range others {
		texts[i] = indexText(a)
		isBool(t, texts[i]+" and its copy", impl.SameIndex(a, copyOfIndex(a)), true)
	}
	for i, a := range others {
		for j, b := range others {
			if same := impl.SameIndex(a, b); same != (texts[i] == texts[j]) {
				t.Errorf("%.1000s and %.1000s: got %v", texts[i], texts[j], same)
			}
		}
	}
	isBool(t, "nil and an empty list of entries", impl.SameIndex(impl.Index{}, impl.Index{Entries: []impl.Entry{}}), true)
	isBool(t, "nil and an empty list of numbers", impl.SameIndex(indexWith(entry("a")), indexWith(entry("a", []int64{}...))), true)
	isBool(t, "an empty list of numbers and nil", impl.SameIndex(indexWith(impl.Entry{Word: "a", Numbers: []int64{}}), indexWith(impl.Entry{Word: "a"})), true)
}

func TestIndexOf(t *testing.T) {
	ix, ok := impl.IndexOf(pets())
	isIndex(t, "pets", ix, ok, petIndex())
	ix, ok = impl.IndexOf(impl.Log{Next: 1})
	isIndex(t, "no messages", ix, ok, impl.Index{})
	ix, ok = impl.IndexOf(impl.Log{Next: 9, Messages: []impl.Message{gone(2, 7, 0, 0, 0), said(3, 7, 0, "", 0), said(8, 7, 0, "...", 0)}})
	isIndex(t, "no words", ix, ok, impl.Index{})
	ix, ok = impl.IndexOf(longLog())
	isIndex(t, "40 messages with a word", ix, ok, indexWith(entry("x", upTo(impl.MaxMessages)...)))
	ix, ok = impl.IndexOf(impl.Log{Next: impl.MaxValue, Messages: []impl.Message{said(impl.MaxValue-1, 7, 0, strings.ToUpper(longWord()), 0)}})
	isIndex(t, "a word of 80 letters", ix, ok, indexWith(entry(longWord(), impl.MaxValue-1)))
	// 40 messages with 27 words of two bytes each, all of which are other ones.
	const bytes = "0123456789abcdefghijklmnopqrstuvwxyz"
	full, want := longLog(), impl.Index{}
	for i := range full.Messages {
		var words []string
		for j := 27 * i; j < 27*i+27; j++ {
			words = append(words, string(bytes[j/36])+string(bytes[j%36]))
			want.Entries = append(want.Entries, entry(words[j-27*i], int64(i)+1))
		}
		full.Messages[i].Text = strings.Join(words, "+")
	}
	ix, ok = impl.IndexOf(full)
	isIndex(t, "1080 words", ix, ok, want)
	for name, l := range badLogs() {
		ix, ok := impl.IndexOf(l)
		isNoIndex(t, name, ix, ok)
	}
}

func TestIndexMessage(t *testing.T) {
	for name, c := range map[string]struct {
		ix   impl.Index
		m    impl.Message
		want impl.Index
	}{
		"a first message":             {impl.Index{}, said(5, 7, 0, "Big cat, big dog", 0), indexWith(entry("big", 5), entry("cat", 5), entry("dog", 5))},
		"a greater number":            {indexWith(entry("dog", 5)), said(6, 7, 0, "a DOG!", 0), indexWith(entry("a", 6), entry("dog", 5, 6))},
		"a lesser number":             {indexWith(entry("dog", 5)), said(4, 7, 0, "dog dogs", 0), indexWith(entry("dog", 4, 5), entry("dogs", 4))},
		"a number between":            {indexWith(entry("dog", 1, 5)), said(3, 7, 0, "dog", 0), indexWith(entry("dog", 1, 3, 5))},
		"a second time":               {petIndex(), messageIn(pets(), 1), petIndex()},
		"a second time with a like":   {petIndex(), messageIn(pets(), 3), petIndex()},
		"the last one a second time":  {petIndex(), messageIn(pets(), 11), petIndex()},
		"no text":                     {petIndex(), said(10, 7, 0, "", 0), petIndex()},
		"no words":                    {petIndex(), said(10, 7, 0, " ?! ", 0), petIndex()},
		"no words and no entries":     {impl.Index{}, said(10, 7, 0, " ?! ", 0), impl.Index{}},
		"gone":                        {petIndex(), gone(1, 7, 0, 1, 0), petIndex()},
		"another text of a number":    {indexWith(entry("cat", 5), entry("dog", 5)), said(5, 7, 0, "dog, cow", 0), indexWith(entry("cat", 5), entry("cow", 5), entry("dog", 5))},
		"digits next to letters":      {impl.Index{}, said(1, 7, 0, "A7 7a 7 a", 0), indexWith(entry("7", 1), entry("7a", 1), entry("a", 1), entry("a7", 1))},
		"40 numbers":                  {indexWith(entry("dog", upTo(39)...)), said(77, 7, 0, "dog", 0), indexWith(entry("dog", append(upTo(39), 77)...))},
		"one of 40 numbers":           {indexWith(entry("dog", upTo(40)...)), said(40, 7, 0, "dog, dog", 0), indexWith(entry("dog", upTo(40)...))},
		"another word beside 40":      {indexWith(entry("dog", upTo(40)...)), said(41, 7, 0, "dogs", 0), indexWith(entry("dog", upTo(40)...), entry("dogs", 41))},
		"a word of 80 letters":        {petIndex(), said(9, 7, 0, longWord(), 0), indexWith(append(petIndex().Entries, entry(longWord(), 9))...)},
		"the greatest number":         {impl.Index{}, said(impl.MaxValue, 7, impl.MaxTick, "dog", 0), indexWith(entry("dog", impl.MaxValue))},
		"the same word often":         {impl.Index{}, said(2, 7, 0, strings.Repeat("a ", 40), 0), indexWith(entry("a", 2))},
		"all letters, digits and not": {impl.Index{}, said(2, 7, 0, "@AZ[`az{/09:", 0), indexWith(entry("09", 2), entry("az", 2))},
	} {
		ix, ok := impl.IndexMessage(c.ix, c.m)
		isIndex(t, name, ix, ok, c.want)
	}
	for _, text := range []string{"dog", "DOG", "a dog, a cat"} {
		ix, ok := impl.IndexMessage(indexWith(entry("cat", 1), entry("dog", upTo(40)...)), said(41, 7, 0, text, 0))
		isNoIndex(t, "a 41st number: "+text, ix, ok)
	}
	for name, ix := range badIndices() {
		for _, text := range []string{"dog", ""} {
			got, ok := impl.IndexMessage(ix, said(9, 7, 0, text, 0))
			isNoIndex(t, name, got, ok)
		}
	}
}

func TestMessagesThatAreNotIndexed(t *testing.T) {
	good := said(9, 7, 5, "big dog", 0)
	for name, change := range map[string]func(m *impl.Message){
		"Number 0": func(m *impl.Message) { m.Number = 0 }, "Number -1": func(m *impl.Message) { m.Number = -1 }, "Number too great": func(m *impl.Message) { m.Number = impl.MaxValue + 1 },
		"no Sender": func(m *impl.Message) { m.Sender = 0 }, "At -1": func(m *impl.Message) { m.At = -1 }, "At too late": func(m *impl.Message) { m.At = impl.MaxTick + 1 },
		"a text too long": func(m *impl.Message) { m.Text = strings.Repeat("dog ", 20) + "x" }, "no text": func(m *impl.Message) { m.Text = "dög" }, "Edits -1": func(m *impl.Message) { m.Edits = -1 },
		"gone with a text": func(m *impl.Message) { m.Gone = true }, "an answer to itself": func(m *impl.Message) { m.Reply = 9 }, "a like of the Sender": func(m *impl.Message) { m.Likes = []int64{7} },
		"21 likes": func(m *impl.Message) { m.Sender, m.Likes = 999, upTo(impl.MaxLikes+1) }, "everything": func(m *impl.Message) { *m = impl.Message{} },
	} {
		m := good
		change(&m)
		ix, ok := impl.IndexMessage(petIndex(), m)
		isNoIndex(t, name, ix, ok)
		points, ok := impl.PointsFor(m, []string{"dog"}, 50)
		isNothing(t, name, points, ok)
	}
}

func TestDropFrom(t *testing.T) {
	entries := petIndex().Entries
	for number, want := range map[int64]impl.Index{
		2: petIndex(), 5: petIndex(), 6: petIndex(), 10: petIndex(), 12: petIndex(), impl.MaxValue: petIndex(),
		1:  indexWith(entry("7", 4), entry("7cat", 4), entry("a", 3), entry("big", 9), entry("cat7", 4), entry("dog", 3, 8, 9), entry("dogs", 11), entry("no", 4), entry("the", 9)),
		3:  indexWith(slices.Concat(entries[:2], entries[3:6], []impl.Entry{entry("dog", 1, 8, 9)}, entries[7:])...),
		4:  indexWith(entry("a", 3), entry("big", 1, 9), entry("cat", 1), entry("dog", 1, 3, 8, 9), entry("dogs", 11), entry("the", 9)),
		8:  indexWith(slices.Concat(entries[:6], []impl.Entry{entry("dog", 1, 3, 9)}, entries[7:])...),
		9:  indexWith(slices.Concat(entries[:3], []impl.Entry{entry("big", 1), entry("cat", 1), entry("cat7", 4), entry("dog", 1, 3, 8)}, entries[7:9])...),
		11: indexWith(slices.Delete(slices.Clone(entries), 7, 8)...),
	} {
		ix, ok := impl.DropFrom(petIndex(), number)
		isIndex(t, fmt.Sprint(number, " is dropped"), ix, ok, want)
		again, ok := impl.DropFrom(ix, number)
		isIndex(t, fmt.Sprint(number, " is dropped again"), again, ok, want)
	}
	ix := petIndex()
	ok := true
	for _, m := range pets().Messages {
		isBool(t, "valid", ok && impl.ValidIndex(ix), true)
		ix, ok = impl.DropFrom(ix, m.Number)
	}
	isIndex(t, "all are dropped", ix, ok, impl.Index{})
	ix, ok = impl.DropFrom(impl.Index{}, 1)
	isIndex(t, "no entries", ix, ok, impl.Index{})
	ix, ok = impl.DropFrom(indexWith(entry("a", impl.MaxValue), entry("b", 1, impl.MaxValue)), impl.MaxValue)
	isIndex(t, "the greatest number", ix, ok, indexWith(entry("b", 1)))
	for _, number := range []int64{0, -1, impl.MaxValue + 1, math.MinInt64, math.MaxInt64} {
		ix, ok := impl.DropFrom(petIndex(), number)
		isNoIndex(t, fmt.Sprint("the number ", number), ix, ok)
	}
	for name, bad := range badIndices() {
		for _, number := range []int64{1, 5, 100} {
			ix, ok := impl.DropFrom(bad, number)
			isNoIndex(t, name, ix, ok)
		}
	}
}

func TestNumbersOf(t *testing.T) {
	for _, e := range petIndex().Entries {
		numbers, ok := impl.NumbersOf(petIndex(), e.Word)
		isList(t, e.Word, numbers, ok, e.Numbers...)
	}
	for _, word := range []string{"fish", "do", "dogg", "dogs7", "77", "0", "z", longWord()} {
		numbers, ok := impl.NumbersOf(petIndex(), word)
		isList(t, "no "+word, numbers, ok)
		numbers, ok = impl.NumbersOf(impl.Index{}, word)
		isList(t, "no entries", numbers, ok)
	}
	numbers, ok := impl.NumbersOf(indexWith(entry(longWord(), upTo(40)...)), longWord())
	isList(t, "a word of 80 bytes", numbers, ok, upTo(40)...)
	for _, word := range notWords() {
		for _, ix := range []impl.Index{petIndex(), {}, indexWith(entry(word, 1))} {
			numbers, ok := impl.NumbersOf(ix, word)
			isNoList(t, fmt.Sprintf("%.20q", word), numbers, ok)
		}
	}
	for name, ix := range badIndices() {
		numbers, ok := impl.NumbersOf(ix, "dog")
		isNoList(t, name, numbers, ok)
	}
}

func TestWordsFrom(t *testing.T) {
	for prefix, want := range map[string][]string{
		"": {"7", "7cat", "a", "big", "cat", "cat7", "dog", "dogs", "no", "the"}, "7": {"7", "7cat"}, "7c": {"7cat"}, "d": {"dog", "dogs"}, "dog": {"dog", "dogs"}, "dogs": {"dogs"}, "dogsx": nil, "dogsdogs": nil,
		"c": {"cat", "cat7"}, "cat": {"cat", "cat7"}, "cat7": {"cat7"}, "b": {"big"}, "the": {"the"}, "them": nil, "o": nil, "z": nil, "0": nil, "og": nil, "at": nil, longWord(): nil,
	} {
		words, ok := impl.WordsFrom(petIndex(), prefix)
		isList(t, "from "+prefix, words, ok, want...)
		words, ok = impl.WordsFrom(impl.Index{}, prefix)
		isList(t, "no entries, from "+prefix, words, ok)
	}
	words, ok := impl.WordsFrom(indexWith(entry(longWord(), 1)), longWord())
	isList(t, "a word of 80 bytes", words, ok, longWord())
	for _, word := range notWords()[1:] {
		for _, ix := range []impl.Index{petIndex(), {}} {
			words, ok := impl.WordsFrom(ix, word)
			isNoList(t, fmt.Sprintf("from %.20q", word), words, ok)
		}
	}
	for name, ix := range badIndices() {
		for _, prefix := range []string{"", "dog"} {
			words, ok := impl.WordsFrom(ix, prefix)
			isNoList(t, name, words, ok)
		}
	}
}

func TestCommonWords(t *testing.T) {
	// 4 messages have dog and 2 have big; the others are as many.
	all := []string{"dog", "big", "7", "7cat", "a", "cat", "cat7", "dogs", "no", "the"}
	for _, count := range []int64{0, 1, 2, 3, 4, 9, 10, 11, impl.MaxItems - 1, impl.MaxItems} {
		words, ok := impl.CommonWords(petIndex(), count)
		isList(t, fmt.Sprint(count, " words"), words, ok, all[:min(count, 10)]...)
		words, ok = impl.CommonWords(impl.Index{}, count)
		isList(t, fmt.Sprint(count, " words of none"), words, ok)
	}
	words, ok := impl.CommonWords(indexWith(entry("a", 5, 6), entry("b", 1, 2, 3), entry("c", 7), entry("d", 1, 2, 9), entry("e", 100, 200)), 4)
	isList(t, "more numbers, not greater ones", words, ok, "b", "d", "a", "e")
	for _, count := range []int64{-1, impl.MaxItems + 1, math.MinInt64, math.MaxInt64} {
		words, ok := impl.CommonWords(petIndex(), count)
		isNoList(t, fmt.Sprint(count, " words"), words, ok)
	}
	for name, ix := range badIndices() {
		for _, count := range []int64{0, 5} {
			words, ok := impl.CommonWords(ix, count)
			isNoList(t, name, words, ok)
		}
	}
}

func TestFindAllAndAny(t *testing.T) {
	for query, c := range map[string]struct{ all, any []int64 }{
		"dog": {[]int64{1, 3, 8, 9}, []int64{1, 3, 8, 9}}, "cat": {[]int64{1}, []int64{1}}, "fish": {nil, nil}, "fish cow": {nil, nil}, "dog fish": {nil, []int64{1, 3, 8, 9}}, "fish dog": {nil, []int64{1, 3, 8, 9}},
		"big dog": {[]int64{1, 9}, []int64{1, 3, 8, 9}}, "dog big": {[]int64{1, 9}, []int64{1, 3, 8, 9}}, "cat big dog": {[]int64{1}, []int64{1, 3, 8, 9}}, "dogs dog": {nil, []int64{1, 3, 8, 9, 11}},
		"dog dog": {[]int64{1, 3, 8, 9}, []int64{1, 3, 8, 9}}, "dog big dog": {[]int64{1, 9}, []int64{1, 3, 8, 9}}, "cat cat7 7cat 7": {nil, []int64{1, 4}}, "7 no 7cat cat7": {[]int64{4}, []int64{4}}, "cat the": {nil, []int64{1, 9}},
		"the cat": {nil, []int64{1, 9}}, "dogs a 7 cat": {nil, []int64{1, 3, 4, 11}}, "dog dog dog dog dog dog dog dog": {[]int64{1, 3, 8, 9}, []int64{1, 3, 8, 9}},
		"big dog big dog big dog the the": {[]int64{9}, []int64{1, 3, 8, 9}}, "7 7cat a big cat cat7 dog dogs": {nil, []int64{1, 3, 4, 8, 9, 11}}, longWord() + " dog": {nil, []int64{1, 3, 8, 9}},
	} {
		words := strings.Fields(query)
		all, ok := impl.FindAll(petIndex(), words)
		isList(t, "all of "+query, all, ok, c.all...)
		either, ok := impl.FindAny(petIndex(), words)
		isList(t, "any of "+query, either, ok, c.any...)
		all, ok = impl.FindAll(impl.Index{}, words)
		isList(t, "all, no entries", all, ok)
		either, ok = impl.FindAny(impl.Index{}, words)
		isList(t, "any, no entries", either, ok)
	}
	// One query can find more numbers than one entry has.
	many, sum := impl.Index{}, []int64{}
	for i := range int64(impl.MaxQuery) {
		numbers := upTo(impl.MaxMessages)
		for j := range numbers {
			numbers[j] += 50 * i
		}
		many.Entries, sum = append(many.Entries, entry(string(rune('a'+i)), numbers...)), append(sum, numbers...)
	}
	either, ok := impl.FindAny(many, strings.Fields("h b a c d g f e"))
	isList(t, "any of 320 numbers", either, ok, sum...)
}

func TestQueriesThatAreNotFound(t *testing.T) {
	for name, words := range notQueries() {
		for _, ix := range []impl.Index{petIndex(), {}} {
			numbers, ok := impl.FindAll(ix, words)
			isNoList(t, "all of "+name, numbers, ok)
			numbers, ok = impl.FindAny(ix, words)
			isNoList(t, "any of "+name, numbers, ok)
		}
		for _, l := range []impl.Log{pets(), {Next: 1}} {
			numbers, ok := impl.FindPhrase(l, words)
			isNoList(t, "the phrase of "+name, numbers, ok)
			numbers, ok = impl.BestOf(l, words, 105, 5)
			isNoList(t, "the best of "+name, numbers, ok)
		}
		for _, m := range pets().Messages {
			points, ok := impl.PointsFor(m, words, 105)
			isNothing(t, "points for "+name, points, ok)
		}
		for _, text := range []string{"a big dog", "Dog", ""} {
			marked, ok := impl.MarkWords(text, words)
			isNothing(t, "marked for "+name, marked, ok)
			snippet, ok := impl.SnippetOf(text, words, 2)
			isNothing(t, "a snippet for "+name, snippet, ok)
		}
	}
	for name, ix := range badIndices() {
		for _, words := range [][]string{{"dog"}, {"big", "dog"}, {"fish"}} {
			numbers, ok := impl.FindAll(ix, words)
			isNoList(t, "all, "+name, numbers, ok)
			numbers, ok = impl.FindAny(ix, words)
			isNoList(t, "any, "+name, numbers, ok)
		}
	}
	for name, l := range badLogs() {
		for _, words := range [][]string{{"hello"}, {"x"}} {
			numbers, ok := impl.FindPhrase(l, words)
			isNoList(t, "the phrase, "+name, numbers, ok)
			numbers, ok = impl.BestOf(l, words, impl.MaxTick, 5)
			isNoList(t, "the best, "+name, numbers, ok)
		}
	}
}

func TestFindPhrase(t *testing.T) {
	for query, want := range map[string][]int64{
		"dog": {1, 3, 8, 9}, "big": {1, 9}, "big cat": {1}, "cat big": {1}, "big dog": {1, 9}, "big cat big dog": {1}, "cat big dog": {1}, "big cat big": {1}, "a dog": {3}, "the big big dog": {9}, "big big": {9}, "big big dog": {9}, "the big": {9},
		// Words apart, in another order, and more than there are.
		"big big cat": nil, "cat dog": nil, "dog big": nil, "cat big cat": nil, "the dog": nil, "dog a": nil, "dog dog": nil, "big big big": nil, "the big big dog dog": nil, "a big cat big dog": nil, "big cat big dog fish": nil, "fish big cat": nil,
		"cat7": {4}, "7cat": {4}, "7": {4}, "cat": {1}, "7cat 7": {4}, "cat7 7cat": {4}, "7 7cat": nil, "cat 7": nil, "no cat7 7cat 7": {4}, "dogs": {11}, "do": nil, "og": nil, "bigdog": nil, "fish": nil,
		"big cat big dog big cat big dog": nil, longWord(): nil,
	} {
		numbers, ok := impl.FindPhrase(pets(), strings.Fields(query))
		isList(t, "the phrase "+query, numbers, ok, want...)
		numbers, ok = impl.FindPhrase(impl.Log{Next: 1}, strings.Fields(query))
		isList(t, "no messages and the phrase "+query, numbers, ok)
	}
	for text, c := range map[string]map[string]bool{
		"one two three four five six seven eight nine": {
			"one two three four five six seven eight": true, "two three four five six seven eight nine": true, "one two three four five six seven nine": false, "nine": true, "eight nine": true, "nine one": false,
		},
		"a a b a a a b": {"a a a b": true, "a b a": true, "b a a b": false, "a a a a": false, "a a b a a a b": true, "a a b a a b": false, "b": true, "b a b": false, "a b": true},
		longWord():      {longWord(): true, longWord()[1:]: false, longWord()[:79]: false},
		"A-B.c@d[E]f":   {"a b c d e f": true, "b c d e": true, "a c": false},
	} {
		for query, is := range c {
			numbers, ok := impl.FindPhrase(impl.Log{Next: 3, Messages: []impl.Message{said(2, 7, 0, text, 0)}}, strings.Fields(query))
			isBool(t, text+" has "+query, ok && slices.Equal(numbers, []int64{2}), is)
			isBool(t, text+" has not "+query, ok && len(numbers) == 0, !is)
		}
	}
}

func TestPointsFor(t *testing.T) {
	likes := said(9, 999, 50, "Big cat, big dog", 0)
	likes.Likes = upTo(3)
	most := said(9, 999, 0, strings.Repeat("a ", 40), 0)
	most.Likes = upTo(impl.MaxLikes)
	one := said(9, 7, 50, "dog", 0)
	for _, c := range []struct {
		m        impl.Message
		query    string
		at, want int64
	}{
		{messageIn(pets(), 1), "big", 0, 20}, {messageIn(pets(), 1), "cat", 0, 10}, {messageIn(pets(), 1), "big dog", 0, 30}, {messageIn(pets(), 1), "big cat dog", 0, 40}, {messageIn(pets(), 1), "fish", 0, 0}, {messageIn(pets(), 1), "fish dog", 0, 10},
		{messageIn(pets(), 1), "big big", 0, 20}, {messageIn(pets(), 1), "dog dog dog dog dog dog dog dog", 0, 10}, {messageIn(pets(), 1), "dogs", 0, 0}, {messageIn(pets(), 3), "dog", 5, 20}, {messageIn(pets(), 3), "a dog", 5, 30}, {messageIn(pets(), 3), "cat", 5, 0},
		{messageIn(pets(), 4), "cat", 5, 0}, {messageIn(pets(), 4), "7", 5, 10}, {messageIn(pets(), 4), "7 cat7 no 7cat", 5, 40}, {messageIn(pets(), 5), "dog", 5, 0}, {messageIn(pets(), 6), "dog", 90, 0}, {messageIn(pets(), 6), "dog", impl.MaxTick, 0},
		{said(9, 7, 0, longWord(), 0), longWord(), 0, 10}, {most, "a", 0, 500}, {most, "a", 50000, 0}, {most, "a", 49999, 1}, {most, "a", 49900, 1}, {most, "a", 49899, 2}, {most, "b", 0, 0},
		// A point less for each hundred ticks.
		{likes, "big", 50, 35}, {likes, "big", 149, 35}, {likes, "big", 150, 34}, {likes, "big", 151, 34}, {likes, "big", 249, 34}, {likes, "big", 250, 33}, {likes, "big", 3449, 2}, {likes, "big", 3450, 1}, {likes, "big", 3549, 1}, {likes, "big", 3550, 0}, {likes, "big", 3650, 0}, {likes, "big", impl.MaxTick, 0},
		{one, "dog", 50, 10}, {one, "dog", 149, 10}, {one, "dog", 150, 9}, {one, "dog", 949, 2}, {one, "dog", 950, 1}, {one, "dog", 1049, 1}, {one, "dog", 1050, 0}, {one, "dog", 1150, 0}, {one, "dog", impl.MaxTick, 0}, {likes, "fish", 50, 0}, {likes, "fish", 3000, 0},
		{said(9, 7, impl.MaxTick, "dog", 0), "dog", impl.MaxTick, 10},
	} {
		points, ok := impl.PointsFor(c.m, strings.Fields(c.query), c.at)
		isValue(t, fmt.Sprintf("points of %q for %s at %d", c.m.Text, c.query, c.at), points, ok, c.want)
	}
	for _, at := range append(notTicks(), 0, 49) {
		for _, query := range []string{"dog", "fish"} {
			points, ok := impl.PointsFor(one, []string{query}, at)
			isNothing(t, fmt.Sprint("at ", at), points, ok)
		}
	}
}

func TestBestOf(t *testing.T) {
	for _, c := range []struct {
		query string
		at    int64
		want  []int64
	}{
		// At 105, 1 has a point less, and 3 too; 3 has two likes, and 8 has one.
		{"dog", 105, []int64{3, 8, 9, 1}}, {"dog big", 105, []int64{9, 1, 3, 8}}, {"big", 105, []int64{9, 1}}, {"cat", 105, []int64{1}}, {"fish", 105, nil}, {"dogs", 105, []int64{11}}, {"7 dogs", 105, []int64{11, 4}}, {"7 dogs", 1104, []int64{11}},
		// As many points: the greatest number first.
		{"7 dogs cat", 105, []int64{11, 4, 1}}, {"the no a", 105, []int64{3, 9, 4}}, {"dog dogs", 204, []int64{3, 8, 11, 9, 1}}, {"dog dogs", 205, []int64{3, 8, 11, 9, 1}}, {"dog dogs", 200, []int64{3, 8, 11, 9, 1}},
		// Only those with points: those of 1 come to an end first.
		{"dog dogs", 999, []int64{3, 8, 11, 9, 1}}, {"dog dogs", 1000, []int64{3, 8, 11, 9}}, {"dog dogs", 1104, []int64{3, 8, 11, 9}}, {"dog dogs", 1105, []int64{3, 8}}, {"dog dogs", 1599, []int64{3, 8}}, {"dog dogs", 1600, []int64{3}}, {"dog dogs", 2004, []int64{3}}, {"dog dogs", 2005, nil}, {"dog dogs", impl.MaxTick, nil},
	} {
		for _, count := range []int64{0, 1, 2, 3, 4, 5, 6, 39, impl.MaxMessages} {
			best, ok := impl.BestOf(pets(), strings.Fields(c.query), c.at, count)
			isList(t, fmt.Sprint(count, " best for ", c.query, " at ", c.at), best, ok, c.want[:min(int(count), len(c.want))]...)
		}
	}
	all := upTo(impl.MaxMessages)
	slices.Reverse(all)
	best, ok := impl.BestOf(longLog(), []string{"x"}, 5, impl.MaxMessages)
	isList(t, "40 messages with as many points", best, ok, all...)
	best, ok = impl.BestOf(longLog(), []string{"x"}, 5, 3)
	isList(t, "3 of them", best, ok, 40, 39, 38)
	best, ok = impl.BestOf(impl.Log{Next: 1}, []string{"x"}, 0, 3)
	isList(t, "no messages", best, ok)
}

func TestTheBestOfNothing(t *testing.T) {
	for _, at := range append(notTicks(), 0, 5, 104) {
		for _, query := range []string{"dog", "cat", "fish"} {
			best, ok := impl.BestOf(pets(), []string{query}, at, 5)
			isNoList(t, fmt.Sprint("at ", at), best, ok)
		}
	}
	// A message that is gone, or that has no points, was there all the same.
	for _, last := range []impl.Message{gone(11, 7, 105, 0, 0), said(11, 7, 105, "", 0)} {
		l := but(pets(), func(l *impl.Log) { *at(l, 9), *at(l, 11) = said(9, 9, 100, "", 0), last })
		best, ok := impl.BestOf(l, []string{"dog"}, 104, 5)
		isNoList(t, "before the last message", best, ok)
		best, ok = impl.BestOf(l, []string{"dog"}, 105, 5)
		isList(t, "at the last message", best, ok, 3, 8, 1)
	}
	for _, at := range notTicks() {
		best, ok := impl.BestOf(impl.Log{Next: 1}, []string{"dog"}, at, 5)
		isNoList(t, fmt.Sprint("no messages at ", at), best, ok)
	}
	for _, count := range []int64{-1, impl.MaxMessages + 1, math.MinInt64, math.MaxInt64} {
		best, ok := impl.BestOf(pets(), []string{"dog"}, 105, count)
		isNoList(t, fmt.Sprint(count, " messages"), best, ok)
	}
}

func TestMarkWords(t *testing.T) {
	for _, c := range []struct{ text, query, want string }{
		{"Big cat, big dog", "big", "[Big] cat, [big] dog"}, {"Big cat, big dog", "dog", "Big cat, big [dog]"}, {"Big cat, big dog", "fish", "Big cat, big dog"}, {"Big cat, big dog", "cat dog big", "[Big] [cat], [big] [dog]"}, {"Big cat, big dog", "dog dog", "Big cat, big [dog]"},
		{"", "dog", ""}, {" ", "dog", " "}, {"dog", "dog", "[dog]"}, {"DOG", "dog", "[DOG]"}, {"dOg DoG", "dog", "[dOg] [DoG]"}, {"dogs adog dog7 7dog", "dog", "dogs adog dog7 7dog"}, {"dog7 7dog", "7dog", "dog7 [7dog]"}, {"7 dogs", "7", "[7] dogs"},
		{"dog-dog", "dog", "[dog]-[dog]"}, {"[dog]", "dog", "[[dog]]"}, {"@dog[dog`dog{dog/dog:", "dog", "@[dog][[dog]`[dog]{[dog]/[dog]:"}, {"~dog!", "dog", "~[dog]!"}, {".dog", "dog", ".[dog]"}, {"dog.", "dog", "[dog]."}, {"do g", "dog", "do g"},
		{strings.Repeat("x ", 40), "x", strings.Repeat("[x] ", 40)}, {longWord(), longWord(), "[" + longWord() + "]"}, {"a b c d e f g h i", "a b c d e f g h", "[a] [b] [c] [d] [e] [f] [g] [h] i"},
	} {
		marked, ok := impl.MarkWords(c.text, strings.Fields(c.query))
		isValue(t, c.text+" marked for "+c.query, marked, ok, c.want)
	}
	for _, text := range append(notTexts(), "a dög", "dog\n", strings.Repeat("dog ", 20)+"x") {
		for _, query := range []string{"dog", "x"} {
			marked, ok := impl.MarkWords(text, []string{query})
			isNothing(t, fmt.Sprintf("%.20q", text), marked, ok)
			snippet, ok := impl.SnippetOf(text, []string{query}, 2)
			isNothing(t, fmt.Sprintf("a snippet of %.20q", text), snippet, ok)
		}
	}
}

func TestSnippetOf(t *testing.T) {
	dots := strings.Repeat(".", impl.MaxText-3)
	for _, c := range []struct {
		text, query string
		wide        int64
		want        string
	}{
		{"Big cat, big dog", "cat", 2, "g cat, "}, {"Big cat, big dog", "cat", 0, "cat"}, {"Big cat, big dog", "cat", 1, " cat,"}, {"Big cat, big dog", "cat", 3, "ig cat, b"}, {"Big cat, big dog", "cat", 4, "Big cat, bi"}, {"Big cat, big dog", "cat", 5, "Big cat, big"},
		{"Big cat, big dog", "cat", 9, "Big cat, big dog"}, {"Big cat, big dog", "cat", 8, "Big cat, big do"}, {"Big cat, big dog", "cat", 10, "Big cat, big dog"}, {"Big cat, big dog", "cat", impl.MaxText, "Big cat, big dog"},
		// The first run of any of the words.
		{"Big cat, big dog", "big", 0, "Big"}, {"Big cat, big dog", "big", 2, "Big c"}, {"Big cat, big dog", "dog cat", 1, " cat,"}, {"Big cat, big dog", "dog", 1, " dog"}, {"Big cat, big dog", "dog", 0, "dog"}, {"Big cat, big dog", "dog dog fish", 5, " big dog"}, {"Big cat, big dog", "dog", impl.MaxText, "Big cat, big dog"},
		{"dog", "dog", 0, "dog"}, {"dog", "dog", impl.MaxText, "dog"}, {"DOGS DOG dog", "dog", 1, " DOG "}, {"7dog dog7 dog, 7", "dog", 2, "7 dog, "}, {"adog dog", "dog", 0, "dog"},
		{dots + "dog", "dog", 2, "..dog"}, {dots + "dog", "dog", 76, dots[1:] + "dog"}, {dots + "dog", "dog", 77, dots + "dog"}, {dots + "dog", "dog", impl.MaxText, dots + "dog"}, {"dog" + dots, "dog", 2, "dog.."}, {"dog" + dots, "dog", 76, "dog" + dots[1:]}, {"dog" + dots, "dog", impl.MaxText, "dog" + dots},
		{longWord(), longWord(), 0, longWord()}, {longWord(), longWord(), impl.MaxText, longWord()},
	} {
		snippet, ok := impl.SnippetOf(c.text, strings.Fields(c.query), c.wide)
		isValue(t, fmt.Sprint(c.wide, " around ", c.query, " in ", c.text), snippet, ok, c.want)
	}
	for _, text := range []string{"", " ", "Big", "dogs", "7dog", "do g", "hot-dogs, all of them"} {
		for _, wide := range []int64{0, 2, impl.MaxText} {
			snippet, ok := impl.SnippetOf(text, []string{"dog", "cat"}, wide)
			isNothing(t, "no dog in "+text, snippet, ok)
		}
	}
	for _, wide := range []int64{-1, impl.MaxText + 1, math.MinInt64, math.MaxInt64} {
		snippet, ok := impl.SnippetOf("a dog", []string{"dog"}, wide)
		isNothing(t, fmt.Sprint("wide ", wide), snippet, ok)
	}
}

// saidWords are the words of a text, as a regular expression finds them.
func saidWords(text string) []string {
	return regexp.MustCompile("[a-z0-9]+").FindAllString(strings.ToLower(text), -1)
}

// someTalk is a log of up to 12 messages of few words; some are gone, and some are liked.
func someTalk(rounds *rand.Rand) impl.Log {
	l, tick := impl.Log{Next: 1}, int64(0)
	pieces := []string{"a", "A", "ab", "Ab", "b", "B", "7", " ", " ", " ", ", ", "-", "["}
	for range rounds.Intn(13) {
		var text strings.Builder
		for range rounds.Intn(16) {
			text.WriteString(pieces[rounds.Intn(len(pieces))])
		}
		tick += []int64{0, 1, 50, 100, 150}[rounds.Intn(5)]
		m := said(l.Next, 100, tick, text.String(), 0)
		if rounds.Intn(6) == 0 {
			m = gone(l.Next, 100, tick, 0, 0)
		} else {
			m.Likes = upTo(int64(rounds.Intn(4)))
		}
		l.Messages, l.Next = append(l.Messages, m), l.Next+1+int64(rounds.Intn(3))
	}
	return l
}

func someQuery(rounds *rand.Rand) []string {
	all := []string{"a", "ab", "b", "7", "ba", "a7", "aa", "abb"}
	words := make([]string, 1+rounds.Intn(3))
	for i := range words {
		words[i] = all[rounds.Intn(len(all))]
	}
	return words
}

// numbersWhere returns the numbers of the messages of which something is true.
func numbersWhere(l impl.Log, is func(said []string) bool) []int64 {
	var numbers []int64
	for _, m := range l.Messages {
		if is(saidWords(m.Text)) {
			numbers = append(numbers, m.Number)
		}
	}
	return numbers
}

// pointsOfWords counts the points again, with the hundredths one after another.
func pointsOfWords(m impl.Message, words []string, now int64) int64 {
	hits := int64(0)
	for _, word := range saidWords(m.Text) {
		if slices.Contains(words, word) {
			hits++
		}
	}
	points := 10*hits + 5*int64(len(m.Likes))
	for at := m.At + 100; at <= now; at += 100 {
		points--
	}
	if hits == 0 || points < 1 {
		return 0
	}
	return points
}

// Promise 9: search finds just what it is told to.
func TestSearchFindsWhatItIsTold(t *testing.T) {
	rounds := rand.New(rand.NewSource(28))
	found := map[string]int{}
	for range 3000 {
		l, words := someTalk(rounds), someQuery(rounds)
		ix, ok := impl.IndexOf(l)
		isBool(t, "a valid index", ok && impl.ValidIndex(ix), true)
		what := fmt.Sprint(words, " in ", logText(l))
		for name, c := range map[string]struct {
			find func() ([]int64, bool)
			is   func(said []string) bool
		}{
			"FindAll": {func() ([]int64, bool) { return impl.FindAll(ix, words) }, func(said []string) bool {
				return !slices.ContainsFunc(words, func(word string) bool { return !slices.Contains(said, word) })
			}},
			"FindAny": {func() ([]int64, bool) { return impl.FindAny(ix, words) }, func(said []string) bool {
				return slices.ContainsFunc(words, func(word string) bool { return slices.Contains(said, word) })
			}},
			"FindPhrase": {func() ([]int64, bool) { return impl.FindPhrase(l, words) }, func(said []string) bool {
				return strings.Contains(" "+strings.Join(said, " ")+" ", " "+strings.Join(words, " ")+" ")
			}},
			"NumbersOf": {func() ([]int64, bool) { return impl.NumbersOf(ix, words[0]) }, func(said []string) bool { return slices.Contains(said, words[0]) }},
		} {
			numbers, ok := c.find()
			isList(t, name+" "+what, numbers, ok, numbersWhere(l, c.is)...)
			found[name] += min(len(numbers), 1)
		}
		for _, e := range ix.Entries {
			isList(t, e.Word+" in "+logText(l), e.Numbers, true, numbersWhere(l, func(said []string) bool { return slices.Contains(said, e.Word) })...)
		}
		numbers := numbersWhere(l, func(said []string) bool {
			return slices.ContainsFunc(said, func(word string) bool { n, ok := impl.NumbersOf(ix, word); return !ok || len(n) == 0 })
		})
		isList(t, "words that the index has not "+what, numbers, true)
	}
	for name, often := range found {
		isBool(t, fmt.Sprint(name, " finds something ", often, " times"), often > 300, true)
	}
}

// Promise 9: ranks are by points.
func TestRanksAreByPoints(t *testing.T) {
	rounds := rand.New(rand.NewSource(29))
	ranked := 0
	for range 3000 {
		l, words := someTalk(rounds), someQuery(rounds)
		now := int64(rounds.Intn(100))
		if len(l.Messages) > 0 {
			now = l.Messages[len(l.Messages)-1].At + []int64{0, 1, 49, 50, 99, 100, 500, 1500}[rounds.Intn(8)]
		}
		points := map[int64]int64{}
		var want []int64
		for _, m := range l.Messages {
			points[m.Number] = pointsOfWords(m, words, now)
			sum, ok := impl.PointsFor(m, words, now)
			isValue(t, fmt.Sprintf("points of %+v for %v at %d", m, words, now), sum, ok, points[m.Number])
			if sum > 0 {
				want = append(want, m.Number)
			}
		}
		slices.SortFunc(want, func(a, b int64) int { return -cmp.Or(cmp.Compare(points[a], points[b]), cmp.Compare(a, b)) })
		count := rounds.Intn(8)
		best, ok := impl.BestOf(l, words, now, int64(count))
		isList(t, fmt.Sprint(count, " best for ", words, " at ", now, " in ", logText(l)), best, ok, want[:min(count, len(want))]...)
		ranked += min(len(best), 2) / 2
	}
	isBool(t, fmt.Sprint("there are ", ranked, " ranks"), ranked > 500, true)
}

// Promise 9: an index into which messages come, and from which they go, one after another, is that of the messages that are left.
func TestIndicesOfMessagesThatComeAndGo(t *testing.T) {
	rounds := rand.New(rand.NewSource(30))
	for range 300 {
		l, ix := impl.Log{Next: 100}, impl.Index{}
		for _, m := range someTalk(rounds).Messages {
			number := int64(1 + rounds.Intn(12))
			l.Messages = slices.DeleteFunc(l.Messages, func(m impl.Message) bool { return m.Number == number })
			less, ok := impl.DropFrom(ix, number)
			want, _ := impl.IndexOf(l)
			isIndex(t, fmt.Sprint(number, " is dropped"), less, ok, want)
			m.At = 0
			m.Number = number
			l.Messages = append(l.Messages, m)
			slices.SortFunc(l.Messages, func(a, b impl.Message) int { return cmp.Compare(a.Number, b.Number) })
			ix, ok = impl.IndexMessage(less, m)
			want, _ = impl.IndexOf(l)
			isIndex(t, fmt.Sprint(number, " is added"), ix, ok, want)
		}
		isWordList(t, ix)
	}
}

// isWordList fails the test unless the words of an index are told as the index has them.
func isWordList(t *testing.T, ix impl.Index) {
	t.Helper()
	numbers := map[string]int{}
	for _, e := range ix.Entries {
		numbers[e.Word] = len(e.Numbers)
	}
	all := slices.Sorted(maps.Keys(numbers))
	for _, prefix := range []string{"", "a", "ab", "7", "b"} {
		words, ok := impl.WordsFrom(ix, prefix)
		isList(t, "from "+prefix, words, ok, slices.DeleteFunc(slices.Clone(all), func(word string) bool { return !strings.HasPrefix(word, prefix) })...)
	}
	slices.SortStableFunc(all, func(a, b string) int { return numbers[b] - numbers[a] })
	for _, count := range []int{0, 1, 3, impl.MaxItems} {
		words, ok := impl.CommonWords(ix, int64(count))
		isList(t, fmt.Sprint(count, " words"), words, ok, all[:min(count, len(all))]...)
	}
}

// Promise 9: marks and snippets are where the words are, and nowhere else.
func TestMarksAreWhereWordsAre(t *testing.T) {
	rounds := rand.New(rand.NewSource(31))
	run := regexp.MustCompile("[A-Za-z0-9]+")
	marked := 0
	for range 500 {
		for _, m := range someTalk(rounds).Messages {
			words, wide := someQuery(rounds), rounds.Intn(6)
			is := func(s string) bool { return slices.Contains(words, strings.ToLower(s)) }
			want := run.ReplaceAllStringFunc(m.Text, func(s string) string {
				if is(s) {
					return "[" + s + "]"
				}
				return s
			})
			got, ok := impl.MarkWords(m.Text, words)
			isValue(t, fmt.Sprintf("%q marked for %v", m.Text, words), got, ok, want)
			snippet, ok := impl.SnippetOf(m.Text, words, int64(wide))
			places := slices.DeleteFunc(run.FindAllStringIndex(m.Text, -1), func(place []int) bool { return !is(m.Text[place[0]:place[1]]) })
			if len(places) == 0 {
				isNothing(t, fmt.Sprintf("no %v in %q", words, m.Text), snippet, ok)
				continue
			}
			marked++
			// The newlines at both ends are bytes that are not there.
			from, to := places[0][0], places[0][1]
			around := (strings.Repeat("\n", wide) + m.Text + strings.Repeat("\n", wide))[from : to+2*wide]
			isValue(t, fmt.Sprintf("%d around %v in %q", wide, words, m.Text), snippet, ok, strings.Trim(around, "\n"))
		}
	}
	isBool(t, fmt.Sprint("there are ", marked, " marks"), marked > 500, true)
}
