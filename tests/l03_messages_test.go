package tests

import (
	"fmt"
	"math"
	"math/rand"
	"slices"
	"strings"
	"testing"

	"loop.example/g01202/impl"
)

// said is a message that nobody has edited, liked or taken back.
func said(number, sender, at int64, text string, reply int64) impl.Message {
	return impl.Message{Number: number, Sender: sender, At: at, Text: text, Reply: reply}
}

// gone is a message that was taken back.
func gone(number, sender, at, edits, reply int64) impl.Message {
	return impl.Message{Number: number, Sender: sender, At: at, Edits: edits, Gone: true, Reply: reply}
}

// talk returns a log with gaps: the messages 1, 4, 7, 8, 11 and those from 14 to 19 are not there any more.
// The threads are 2, 3, 5, 6 and 9, 10, and 12 and 13 alone; the first message of those with 9, 12 and 13 is missing.
func talk() impl.Log {
	l := impl.Log{Next: 20, Messages: []impl.Message{
		said(2, 7, 0, "hello", 0), said(3, 8, 2, "hi @7", 2), gone(5, 9, 2, 4, 3), said(6, 7, 4, "ok @8 and @7", 5),
		said(9, 9, 4, "so", 4), said(10, 8, 9, "well", 9), gone(12, 7, 9, 0, 1), said(13, impl.MaxMember, 9, "@9 @7", 4),
	}}
	l.Messages[0].Likes = []int64{8, 9}
	l.Messages[3].Likes, l.Messages[3].Edits = []int64{1}, 3
	l.Messages[7].Likes = []int64{7, 8, 9, 999}
	return l
}

func copyOfLog(l impl.Log) impl.Log {
	l.Messages = slices.Clone(l.Messages)
	for i, m := range l.Messages {
		l.Messages[i].Likes = slices.Clone(m.Likes)
	}
	return l
}

// but returns a log that is changed in one way.
func but(l impl.Log, change func(l *impl.Log)) impl.Log {
	l = copyOfLog(l)
	change(&l)
	return l
}

// at returns the message with a number, to be changed.
func at(l *impl.Log, number int64) *impl.Message {
	for i := range l.Messages {
		if l.Messages[i].Number == number {
			return &l.Messages[i]
		}
	}
	return &impl.Message{}
}

func messageIn(l impl.Log, number int64) impl.Message { return *at(&l, number) }

// longLog has as many messages as a log may have, all of the member 7 at the tick 5.
func longLog() impl.Log {
	l := impl.Log{Next: impl.MaxMessages + 1}
	for _, n := range upTo(impl.MaxMessages) {
		l.Messages = append(l.Messages, said(n, 7, 5, "x", n-1))
	}
	return l
}

// logText writes a log out; an empty list and nil are the same.
func logText(l impl.Log) string { return fmt.Sprintf("%+q", fmt.Sprintf("%+v", l)) }

func isLog(t *testing.T, what string, got impl.Log, ok bool, want impl.Log) {
	t.Helper()
	if !ok || logText(got) != logText(want) {
		t.Errorf("%s: got %v %v, want %v true", what, logText(got), ok, logText(want))
	}
}

func isNoLog(t *testing.T, what string, got impl.Log, ok bool) {
	t.Helper()
	isLog(t, what, got, !ok, impl.Log{})
}

// notNumbers are numbers of which no message of talk has one.
func notNumbers() []int64 {
	return []int64{0, 1, 4, 7, 8, 11, 14, 19, 20, 21, -1, -2, impl.MaxValue, impl.MaxValue + 1, math.MinInt64, math.MaxInt64}
}

// notMembers are numbers of no members.
func notMembers() []int64 {
	return []int64{0, -1, -7, impl.MaxMember + 1, impl.MaxValue, math.MinInt64, math.MaxInt64}
}

// notTexts are no texts.
func notTexts() []string {
	return []string{strings.Repeat("x", impl.MaxText+1), "a\n", "\x1f", "\x7f", "é", "\xff", "\x00", strings.Repeat("x", 10000)}
}

// badLogs are logs that are not valid, some of them in just one field of one message.
func badLogs() map[string]impl.Log {
	bad := map[string]impl.Log{"the empty log": {}}
	for name, change := range map[string]func(l *impl.Log){
		"Next 0":                    func(l *impl.Log) { l.Next, l.Messages = 0, nil },
		"Next -1":                   func(l *impl.Log) { l.Next, l.Messages = -1, nil },
		"Next too great":            func(l *impl.Log) { l.Next = impl.MaxValue + 1 },
		"Next is the last int64":    func(l *impl.Log) { l.Next = math.MaxInt64 },
		"Next is the last Number":   func(l *impl.Log) { l.Next = 13 },
		"Next is an earlier Number": func(l *impl.Log) { l.Next = 12 },
		"Next is a gap":             func(l *impl.Log) { l.Next = 4 },
		"Numbers as great":          func(l *impl.Log) { at(l, 6).Number = 5 },
		"Numbers fall":              func(l *impl.Log) { at(l, 6).Number = 10 },
		"Number 0":                  func(l *impl.Log) { at(l, 2).Number = 0 },
		"At falls":                  func(l *impl.Log) { at(l, 6).At = 1 },
		"the last At falls":         func(l *impl.Log) { at(l, 13).At = 8 },
		"At -1":                     func(l *impl.Log) { at(l, 2).At = -1 },
		"another order":             func(l *impl.Log) { l.Messages[1], l.Messages[2] = l.Messages[2], l.Messages[1] },
		"a message twice":           func(l *impl.Log) { l.Messages[2] = l.Messages[1] },
		"the empty message":         func(l *impl.Log) { l.Messages[0] = impl.Message{} },
		"a bad Sender":              func(l *impl.Log) { at(l, 9).Sender = 0 },
		"a bad text":                func(l *impl.Log) { at(l, 9).Text = "\n" },
		"bad Edits":                 func(l *impl.Log) { at(l, 9).Edits = -1 },
		"a bad Reply":               func(l *impl.Log) { at(l, 9).Reply = 9 },
		"bad Likes":                 func(l *impl.Log) { at(l, 13).Likes[0] = 0 },
		"a like of the Sender":      func(l *impl.Log) { at(l, 2).Likes = []int64{7} },
		"a text that is gone":       func(l *impl.Log) { at(l, 12).Text = "x" },
		"a like that is gone":       func(l *impl.Log) { at(l, 12).Likes = []int64{1} },
	} {
		bad[name] = but(talk(), change)
	}
	bad["41 messages"] = but(longLog(), func(l *impl.Log) { l.Messages, l.Next = append(l.Messages, said(41, 7, 5, "x", 0)), 42 })
	return bad
}

// The examples of chapter 3.
func TestExamplesOfLogs(t *testing.T) {
	l, number, ok := impl.PostMessage(impl.Log{Next: 1}, 7, 0, "a", 0)
	isLog(t, "the first message", l, ok, impl.Log{Next: 2, Messages: []impl.Message{said(1, 7, 0, "a", 0)}})
	isValue(t, "its number", number, ok, 1)
	l, number, ok = impl.PostMessage(l, 8, 0, "b", 1)
	isValue(t, "an answer", number, ok, 2)
	l, number, ok = impl.PostMessage(l, 9, 0, "c", 2)
	isValue(t, "an answer to this one", number, ok, 3)
	for _, n := range upTo(3) {
		thread, ok := impl.ThreadOf(l, n)
		isList(t, fmt.Sprint("the thread of ", n), thread, ok, 1, 2, 3)
	}
}

func TestConstantsOfMessages(t *testing.T) {
	isList(t, "limits", []int64{impl.MaxMessages, impl.MaxLikes}, true, 40, 20)
}

func TestValidMessage(t *testing.T) {
	for _, m := range slices.Concat(talk().Messages, longLog().Messages) {
		isBool(t, fmt.Sprint(m), impl.ValidMessage(m), true)
	}
	for name, change := range map[string]func(m *impl.Message){
		"the first Number":   func(m *impl.Message) { m.Number, m.Reply = 1, 0 },
		"the last Number":    func(m *impl.Message) { m.Number = impl.MaxValue },
		"the first Sender":   func(m *impl.Message) { m.Sender, m.Likes = 1, []int64{2} },
		"the last Sender":    func(m *impl.Message) { m.Sender = impl.MaxMember },
		"the first tick":     func(m *impl.Message) { m.At = 0 },
		"the last tick":      func(m *impl.Message) { m.At = impl.MaxTick },
		"no text":            func(m *impl.Message) { m.Text = "" },
		"the longest text":   func(m *impl.Message) { m.Text = strings.Repeat("~", impl.MaxText) },
		"blanks":             func(m *impl.Message) { m.Text = "  " },
		"no edits":           func(m *impl.Message) { m.Edits = 0 },
		"the most edits":     func(m *impl.Message) { m.Edits = impl.MaxValue },
		"no Reply":           func(m *impl.Message) { m.Reply = 0 },
		"the least Reply":    func(m *impl.Message) { m.Reply = 1 },
		"the greatest Reply": func(m *impl.Message) { m.Reply = m.Number - 1 },
		"a far Reply":        func(m *impl.Message) { m.Number, m.Reply = impl.MaxValue, impl.MaxValue-1 },
		"no likes":           func(m *impl.Message) { m.Likes = []int64{} },
		"the most likes":     func(m *impl.Message) { m.Sender, m.Likes = 21, upTo(impl.MaxLikes) },
		"the last likes":     func(m *impl.Message) { m.Likes = []int64{1, impl.MaxMember} },
		"likes around":       func(m *impl.Message) { m.Sender, m.Likes = 7, []int64{6, 8} },
		"gone":               func(m *impl.Message) { m.Gone, m.Text, m.Likes = true, "", nil },
		"gone, empty likes":  func(m *impl.Message) { m.Gone, m.Text, m.Likes = true, "", []int64{} },
	} {
		m := messageIn(talk(), 6)
		change(&m)
		isBool(t, name, impl.ValidMessage(m), true)
	}
}

func TestMessagesThatAreNotValid(t *testing.T) {
	isBool(t, "the empty message", impl.ValidMessage(impl.Message{}), false)
	for name, change := range map[string]func(m *impl.Message){
		"Number 0":            func(m *impl.Message) { m.Number, m.Reply = 0, 0 },
		"Number 0, Reply -1":  func(m *impl.Message) { m.Number, m.Reply = 0, -1 },
		"Number -1":           func(m *impl.Message) { m.Number = -1 },
		"Number too great":    func(m *impl.Message) { m.Number = impl.MaxValue + 1 },
		"the last int64":      func(m *impl.Message) { m.Number = math.MaxInt64 },
		"Sender 0":            func(m *impl.Message) { m.Sender = 0 },
		"Sender -1":           func(m *impl.Message) { m.Sender = -1 },
		"Sender 1001":         func(m *impl.Message) { m.Sender = impl.MaxMember + 1 },
		"At -1":               func(m *impl.Message) { m.At = -1 },
		"At too great":        func(m *impl.Message) { m.At = impl.MaxTick + 1 },
		"Edits -1":            func(m *impl.Message) { m.Edits = -1 },
		"Edits too great":     func(m *impl.Message) { m.Edits = impl.MaxValue + 1 },
		"Reply -1":            func(m *impl.Message) { m.Reply = -1 },
		"Reply is Number":     func(m *impl.Message) { m.Reply = m.Number },
		"Reply is greater":    func(m *impl.Message) { m.Reply = m.Number + 1 },
		"Reply is least":      func(m *impl.Message) { m.Reply = math.MinInt64 },
		"like 0":              func(m *impl.Message) { m.Likes = []int64{0, 1} },
		"like 1001":           func(m *impl.Message) { m.Likes = []int64{1, impl.MaxMember + 1} },
		"likes fall":          func(m *impl.Message) { m.Likes = []int64{2, 1} },
		"a like twice":        func(m *impl.Message) { m.Likes = []int64{1, 1} },
		"a like of Sender":    func(m *impl.Message) { m.Likes = []int64{6, 7, 8} },
		"it likes itself":     func(m *impl.Message) { m.Likes = []int64{7} },
		"21 likes":            func(m *impl.Message) { m.Sender, m.Likes = 90, upTo(impl.MaxLikes+1) },
		"gone with a text":    func(m *impl.Message) { m.Gone, m.Likes = true, nil },
		"gone with a blank":   func(m *impl.Message) { m.Gone, m.Text, m.Likes = true, " ", nil },
		"gone with a like":    func(m *impl.Message) { m.Gone, m.Text = true, "" },
		"gone with both":      func(m *impl.Message) { m.Gone = true },
		"gone, Reply is late": func(m *impl.Message) { m.Gone, m.Text, m.Likes, m.Reply = true, "", nil, 6 },
	} {
		m := messageIn(talk(), 6)
		change(&m)
		isBool(t, name, impl.ValidMessage(m), false)
	}
	for _, text := range notTexts() {
		isBool(t, fmt.Sprintf("%q", text), impl.ValidMessage(said(1, 7, 0, text, 0)), false)
	}
}

func TestValidLog(t *testing.T) {
	for name, change := range map[string]func(l *impl.Log){
		"as it is":          func(l *impl.Log) {},
		"the least Next":    func(l *impl.Log) { l.Next = 14 },
		"the greatest Next": func(l *impl.Log) { l.Next = impl.MaxValue },
		"no messages":       func(l *impl.Log) { l.Messages = nil },
		"empty messages":    func(l *impl.Log) { l.Messages = []impl.Message{} },
		"nothing yet":       func(l *impl.Log) { l.Next, l.Messages = 1, nil },
		"40 messages":       func(l *impl.Log) { *l = longLog() },
		"one message":       func(l *impl.Log) { l.Messages = l.Messages[5:6] },
		"all at once":       func(l *impl.Log) { *l = but(longLog(), func(l *impl.Log) { at(l, 1).At = 0 }) },
		"the first Number":  func(l *impl.Log) { at(l, 2).Number = 1 },
		"the last Numbers":  func(l *impl.Log) { at(l, 13).Number, l.Next = impl.MaxValue-1, impl.MaxValue },
		"replies to gaps":   func(l *impl.Log) { at(l, 9).Reply, at(l, 10).Reply = 7, 8 },
		"the last ticks":    func(l *impl.Log) { at(l, 12).At, at(l, 13).At = impl.MaxTick, impl.MaxTick },
	} {
		isBool(t, name, impl.ValidLog(but(talk(), change)), true)
	}
	for name, l := range badLogs() {
		isBool(t, name, impl.ValidLog(l), false)
	}
}

func TestSameLog(t *testing.T) {
	for name, change := range map[string]func(l *impl.Log){
		"Next":               func(l *impl.Log) { l.Next++ },
		"Number":             func(l *impl.Log) { at(l, 10).Number = 11 },
		"Sender":             func(l *impl.Log) { at(l, 2).Sender = 6 },
		"At":                 func(l *impl.Log) { at(l, 10).At = 8 },
		"Text":               func(l *impl.Log) { at(l, 9).Text = "So" },
		"a blank":            func(l *impl.Log) { at(l, 9).Text = "so " },
		"Edits":              func(l *impl.Log) { at(l, 13).Edits = 1 },
		"Gone":               func(l *impl.Log) { at(l, 12).Gone = false },
		"Reply":              func(l *impl.Log) { at(l, 13).Reply = 0 },
		"a like":             func(l *impl.Log) { at(l, 6).Likes[0] = 2 },
		"a like less":        func(l *impl.Log) { at(l, 2).Likes = at(l, 2).Likes[:1] },
		"a like more":        func(l *impl.Log) { at(l, 13).Likes = append(at(l, 13).Likes, impl.MaxMember) },
		"no likes":           func(l *impl.Log) { at(l, 6).Likes = nil },
		"likes of another":   func(l *impl.Log) { at(l, 3).Likes = []int64{7} },
		"a message less":     func(l *impl.Log) { l.Messages = l.Messages[:7] },
		"the first one less": func(l *impl.Log) { l.Messages = l.Messages[1:] },
		"no messages":        func(l *impl.Log) { l.Messages = nil },
		"another order":      func(l *impl.Log) { slices.Reverse(l.Messages) },
	} {
		other := but(talk(), change)
		isBool(t, name, impl.SameLog(talk(), other), false)
		isBool(t, name, impl.SameLog(other, talk()), false)
		isBool(t, name+" in both", impl.SameLog(other, but(talk(), change)), true)
	}
	isBool(t, "a log", impl.SameLog(talk(), talk()), true)
	empty := impl.Log{Messages: []impl.Message{}}
	isBool(t, "no messages", impl.SameLog(empty, impl.Log{}) && impl.SameLog(impl.Log{}, empty), true)
	none := but(talk(), func(l *impl.Log) { at(l, 3).Likes = []int64{} })
	isBool(t, "no likes", impl.SameLog(none, talk()) && impl.SameLog(talk(), none), true)
	for name, l := range badLogs() {
		isBool(t, name, impl.SameLog(l, copyOfLog(l)), true)
		isBool(t, name+" and a valid one", impl.SameLog(l, talk()) || impl.SameLog(talk(), l), false)
	}
	odd := impl.Message{Number: -1, Sender: math.MinInt64, At: math.MaxInt64, Text: "\xff", Edits: -9, Gone: true, Reply: 5, Likes: []int64{3, 3, -1}}
	isBool(t, "odd messages", impl.SameLog(impl.Log{Next: -4, Messages: []impl.Message{odd, odd}}, impl.Log{Next: -4, Messages: []impl.Message{odd, odd}}), true)
}

// post is talk with one message more.
func post(sender, tick int64, text string, reply int64) impl.Log {
	return but(talk(), func(l *impl.Log) { l.Messages, l.Next = append(l.Messages, said(20, sender, tick, text, reply)), 21 })
}

func TestPostMessage(t *testing.T) {
	longest := strings.Repeat("~", impl.MaxText)
	for _, c := range []struct {
		sender, at int64
		text       string
		reply      int64
	}{
		{7, 9, "x", 0}, {1, 9, "", 0}, {impl.MaxMember, 9, longest, 0}, {500, 10, "not in the log yet", 0}, {7, impl.MaxTick, "x", 0},
		{7, 9, "x", 2}, {7, 9, "x", 3}, {7, 9, "x", 6}, {7, 9, "x", 9}, {7, 9, "x", 10}, {impl.MaxMember, 9, "to itself", 13},
	} {
		l, number, ok := impl.PostMessage(talk(), c.sender, c.at, c.text, c.reply)
		isLog(t, fmt.Sprint(c), l, ok, post(c.sender, c.at, c.text, c.reply))
		isValue(t, fmt.Sprint("the number of ", c), number, ok, 20)
	}
	none := func(what string, l impl.Log, sender, at int64, text string, reply int64) {
		t.Helper()
		l, number, ok := impl.PostMessage(l, sender, at, text, reply)
		isNoLog(t, what, l, ok)
		isNothing(t, "the number of "+what, number, ok)
	}
	for _, reply := range append([]int64{5, 12}, notNumbers()[1:]...) {
		none(fmt.Sprint("a reply to ", reply), talk(), 7, 9, "x", reply)
	}
	for _, sender := range notMembers() {
		none(fmt.Sprint("the sender ", sender), talk(), sender, 9, "x", 0)
	}
	for _, at := range []int64{8, 0, -1, impl.MaxTick + 1, math.MinInt64, math.MaxInt64} {
		none(fmt.Sprint("at ", at), talk(), 7, at, "x", 0)
	}
	for _, text := range notTexts() {
		none(fmt.Sprintf("%q", text), talk(), 7, 9, text, 0)
	}
	for name, l := range badLogs() {
		none(name, l, 7, 20, "x", 0)
	}
}

// Both limits of a log are reached exactly: its messages and its Next.
func TestPostUpToTheLimits(t *testing.T) {
	full := longLog()
	l, number, ok := impl.PostMessage(but(full, func(l *impl.Log) { l.Messages, l.Next = l.Messages[:39], 40 }), 7, 5, "x", 39)
	isLog(t, "the message 40", l, ok, full)
	isValue(t, "its number", number, ok, 40)
	l, number, ok = impl.PostMessage(full, 7, 5, "x", 0)
	isNoLog(t, "the message 41", l, ok)
	isNothing(t, "its number", number, ok)
	l, number, ok = impl.PostMessage(but(full, func(l *impl.Log) { l.Messages = l.Messages[1:] }), 8, 5, "y", 1)
	isNoLog(t, "a reply to one that is swept", l, ok)
	l, number, ok = impl.PostMessage(but(full, func(l *impl.Log) { l.Messages = l.Messages[1:] }), 8, 5, "y", 2)
	isLog(t, "one in place of one that is swept", l, ok, impl.Log{Next: 42, Messages: append(full.Messages[1:], said(41, 8, 5, "y", 2))})
	for _, messages := range [][]impl.Message{nil, talk().Messages} {
		l, number, ok = impl.PostMessage(impl.Log{Next: impl.MaxValue - 1, Messages: messages}, 7, 9, "x", 0)
		isLog(t, "the last Number", l, ok, impl.Log{Next: impl.MaxValue, Messages: append(slices.Clone(messages), said(impl.MaxValue-1, 7, 9, "x", 0))})
		isValue(t, "the last Number", number, ok, impl.MaxValue-1)
		l, number, ok = impl.PostMessage(impl.Log{Next: impl.MaxValue, Messages: messages}, 7, 9, "x", 0)
		isNoLog(t, "the greatest Next", l, ok)
		isNothing(t, "the greatest Next", number, ok)
	}
	l, number, ok = impl.PostMessage(impl.Log{Next: 100}, impl.MaxMember, 0, "x", 0)
	isLog(t, "no messages any more", l, ok, impl.Log{Next: 101, Messages: []impl.Message{said(100, impl.MaxMember, 0, "x", 0)}})
	isValue(t, "no messages any more", number, ok, 100)
}

func TestEditMessage(t *testing.T) {
	longest := strings.Repeat("~", impl.MaxText)
	for number, sender := range map[int64]int64{2: 7, 3: 8, 6: 7, 9: 9, 10: 8, 13: impl.MaxMember} {
		for _, text := range []string{"", " ", "X", "hello ", longest} {
			l, ok := impl.EditMessage(talk(), number, sender, text)
			isLog(t, fmt.Sprint(number), l, ok, but(talk(), func(l *impl.Log) { at(l, number).Text = text; at(l, number).Edits++ }))
		}
		for _, other := range append([]int64{1, 6, 10, 999}, notMembers()...) {
			l, ok := impl.EditMessage(talk(), number, other, "X")
			isNoLog(t, fmt.Sprint(number, " by ", other), l, ok)
		}
		for _, text := range append(notTexts(), messageIn(talk(), number).Text) {
			l, ok := impl.EditMessage(talk(), number, sender, text)
			isNoLog(t, fmt.Sprintf("%d becomes %q", number, text), l, ok)
		}
	}
	for _, number := range append(notNumbers(), 5, 12) {
		for _, sender := range []int64{7, 9} {
			for _, text := range []string{"", "X"} {
				l, ok := impl.EditMessage(talk(), number, sender, text)
				isNoLog(t, fmt.Sprint(number, " by ", sender), l, ok)
			}
		}
	}
	for name, l := range badLogs() {
		l, ok := impl.EditMessage(l, 2, 7, "X")
		isNoLog(t, name, l, ok)
	}
}

func TestEditsUpToTheLimit(t *testing.T) {
	edited := func(edits int64, text string) impl.Log {
		return but(talk(), func(l *impl.Log) { at(l, 6).Edits, at(l, 6).Text = edits, text })
	}
	l, ok := impl.EditMessage(edited(impl.MaxValue-1, "a"), 6, 7, "b")
	isLog(t, "the last edit", l, ok, edited(impl.MaxValue, "b"))
	l, ok = impl.EditMessage(edited(impl.MaxValue, "a"), 6, 7, "b")
	isNoLog(t, "one edit more", l, ok)
	l, ok = impl.TakeBack(edited(impl.MaxValue, "a"), 6, 7)
	isLog(t, "the most edits stay", l, ok, but(edited(impl.MaxValue, ""), func(l *impl.Log) { at(l, 6).Gone, at(l, 6).Likes = true, nil }))
	_, ok = impl.EditMessage(edited(impl.MaxValue, "a"), 2, 7, "b")
	isBool(t, "another message", ok, true)
	l, ok = impl.EditMessage(edited(4, ""), 6, 7, "")
	isNoLog(t, "an empty text again", l, ok)
	l, ok = impl.EditMessage(edited(4, ""), 6, 7, "b")
	isLog(t, "an empty text before", l, ok, edited(5, "b"))
}

// Edits and Reply stay, and so do the answers to the message.
func TestTakeBack(t *testing.T) {
	for number, sender := range map[int64]int64{2: 7, 3: 8, 6: 7, 9: 9, 10: 8, 13: impl.MaxMember} {
		l, ok := impl.TakeBack(talk(), number, sender)
		isLog(t, fmt.Sprint(number), l, ok, but(talk(), func(l *impl.Log) {
			m := at(l, number)
			*m = gone(m.Number, m.Sender, m.At, m.Edits, m.Reply)
		}))
		again, ok := impl.TakeBack(l, number, sender)
		isNoLog(t, fmt.Sprint(number, " again"), again, ok)
		for _, other := range append([]int64{1, 6, 10, 999}, notMembers()...) {
			l, ok := impl.TakeBack(talk(), number, other)
			isNoLog(t, fmt.Sprint(number, " by ", other), l, ok)
		}
	}
	for _, number := range append(notNumbers(), 5, 12) {
		for _, sender := range []int64{7, 9, 0} {
			l, ok := impl.TakeBack(talk(), number, sender)
			isNoLog(t, fmt.Sprint(number, " by ", sender), l, ok)
		}
	}
	for name, l := range badLogs() {
		l, ok := impl.TakeBack(l, 2, 7)
		isNoLog(t, name, l, ok)
	}
	l, ok := impl.TakeBack(but(talk(), func(l *impl.Log) { at(l, 9).Text = "" }), 9, 9)
	isLog(t, "an empty text", l, ok, but(talk(), func(l *impl.Log) { *at(l, 9) = gone(9, 9, 4, 0, 4) }))
}

func TestLikeMessage(t *testing.T) {
	for _, c := range []struct {
		number, member int64
		likes          []int64
	}{
		{3, 7, []int64{7}}, {3, 1, []int64{1}}, {3, impl.MaxMember, []int64{impl.MaxMember}}, {2, 1, []int64{1, 8, 9}}, {2, 10, []int64{8, 9, 10}},
		{13, 1, []int64{1, 7, 8, 9, 999}}, {13, 10, []int64{7, 8, 9, 10, 999}}, {9, 8, []int64{8}}, {10, 9, []int64{9}}, {6, 8, []int64{1, 8}},
	} {
		l, ok := impl.LikeMessage(talk(), c.number, c.member)
		isLog(t, fmt.Sprint(c), l, ok, but(talk(), func(l *impl.Log) { at(l, c.number).Likes = c.likes }))
		again, ok := impl.LikeMessage(l, c.number, c.member)
		isNoLog(t, fmt.Sprint(c, " again"), again, ok)
		back, ok := impl.UnlikeMessage(l, c.number, c.member)
		isLog(t, fmt.Sprint(c, " and unlike"), back, ok, talk())
	}
	for _, c := range [][2]int64{{2, 7}, {3, 8}, {6, 7}, {9, 9}, {13, impl.MaxMember}, {2, 8}, {2, 9}, {6, 1}, {13, 7}, {13, 999}, {5, 1}, {5, 9}, {12, 1}, {12, 7}} {
		l, ok := impl.LikeMessage(talk(), c[0], c[1])
		isNoLog(t, fmt.Sprint(c), l, ok)
	}
	for _, number := range notNumbers() {
		l, ok := impl.LikeMessage(talk(), number, 50)
		isNoLog(t, fmt.Sprint("a like of ", number), l, ok)
	}
	for _, member := range notMembers() {
		l, ok := impl.LikeMessage(talk(), 3, member)
		isNoLog(t, fmt.Sprint("a like by ", member), l, ok)
	}
	for name, l := range badLogs() {
		l, ok := impl.LikeMessage(l, 3, 50)
		isNoLog(t, name, l, ok)
	}
}

func TestUnlikeMessage(t *testing.T) {
	for _, c := range []struct {
		number, member int64
		likes          []int64
	}{
		{2, 8, []int64{9}}, {2, 9, []int64{8}}, {6, 1, nil}, {13, 7, []int64{8, 9, 999}}, {13, 8, []int64{7, 9, 999}}, {13, 999, []int64{7, 8, 9}},
	} {
		l, ok := impl.UnlikeMessage(talk(), c.number, c.member)
		isLog(t, fmt.Sprint(c), l, ok, but(talk(), func(l *impl.Log) { at(l, c.number).Likes = c.likes }))
		again, ok := impl.UnlikeMessage(l, c.number, c.member)
		isNoLog(t, fmt.Sprint(c, " again"), again, ok)
	}
	for _, c := range [][2]int64{{2, 7}, {2, 1}, {2, 10}, {2, 999}, {3, 8}, {3, 7}, {6, 7}, {13, 6}, {13, impl.MaxMember}, {5, 1}, {5, 9}, {12, 1}, {12, 7}} {
		l, ok := impl.UnlikeMessage(talk(), c[0], c[1])
		isNoLog(t, fmt.Sprint(c), l, ok)
	}
	for _, number := range notNumbers() {
		l, ok := impl.UnlikeMessage(talk(), number, 8)
		isNoLog(t, fmt.Sprint("of ", number), l, ok)
	}
	for _, member := range notMembers() {
		l, ok := impl.UnlikeMessage(talk(), 13, member)
		isNoLog(t, fmt.Sprint("by ", member), l, ok)
	}
	for name, l := range badLogs() {
		l, ok := impl.UnlikeMessage(l, 2, 8)
		isNoLog(t, name, l, ok)
	}
}

func TestLikesUpToTheLimit(t *testing.T) {
	liked := func(likes ...int64) impl.Log { return but(talk(), func(l *impl.Log) { at(l, 13).Likes = likes }) }
	most := upTo(impl.MaxLikes)
	l, ok := impl.LikeMessage(liked(most[:19]...), 13, 20)
	isLog(t, "the like 20", l, ok, liked(most...))
	l, ok = impl.LikeMessage(liked(most[1:]...), 13, 1)
	isLog(t, "the like 20 before all others", l, ok, liked(most...))
	for _, member := range []int64{21, 999, 20, 1, impl.MaxMember} {
		l, ok = impl.LikeMessage(liked(most...), 13, member)
		isNoLog(t, fmt.Sprint("the like 21 by ", member), l, ok)
	}
	l, ok = impl.UnlikeMessage(liked(most...), 13, 20)
	isLog(t, "one like less", l, ok, liked(most[:19]...))
	l, ok = impl.LikeMessage(liked(most...), 2, 1)
	isBool(t, "a like of another message", ok, true)
	l, ok = impl.TakeBack(liked(most...), 13, impl.MaxMember)
	isLog(t, "taken back with all likes", l, ok, but(talk(), func(l *impl.Log) { *at(l, 13) = gone(13, impl.MaxMember, 9, 0, 4) }))
}

func TestMessageOf(t *testing.T) {
	for _, l := range []impl.Log{talk(), longLog()} {
		for _, m := range l.Messages {
			got, ok := impl.MessageOf(l, m.Number)
			isLog(t, fmt.Sprint(m.Number), impl.Log{Messages: []impl.Message{got}}, ok, impl.Log{Messages: []impl.Message{m}})
		}
	}
	for _, number := range notNumbers() {
		isNoMessage(t, fmt.Sprint(number), talk(), number)
	}
	isNoMessage(t, "no messages", impl.Log{Next: 3}, 2)
	for name, l := range badLogs() {
		isNoMessage(t, name, l, 3)
	}
}

func isNoMessage(t *testing.T, what string, l impl.Log, number int64) {
	t.Helper()
	got, ok := impl.MessageOf(l, number)
	if ok || fmt.Sprintf("%+v", got) != fmt.Sprintf("%+v", impl.Message{}) {
		t.Errorf("%s: got %+v %v, want nothing and false", what, got, ok)
	}
}

// isAsked fails the test unless a question fails for all logs that are not valid.
func isAsked[T any](t *testing.T, what string, ask func(l impl.Log) ([]T, bool)) {
	t.Helper()
	for name, l := range badLogs() {
		if got, ok := ask(l); ok || len(got) != 0 {
			t.Errorf("%s: %s: got %v %v, want nothing and false", what, name, got, ok)
		}
	}
}

// Answers that are gone count, and so do those to a message that is gone; no message is an answer to 0.
func TestAnswersTo(t *testing.T) {
	for number, want := range map[int64][]int64{2: {3}, 3: {5}, 5: {6}, 6: nil, 9: {10}, 10: nil, 12: nil, 13: nil} {
		answers, ok := impl.AnswersTo(talk(), number)
		isList(t, fmt.Sprint("to ", number), answers, ok, want...)
	}
	all := but(longLog(), func(l *impl.Log) {
		for i := range l.Messages[1:] {
			l.Messages[i+1].Reply = 1
		}
		*at(l, 7) = gone(7, 7, 5, 0, 1)
	})
	answers, ok := impl.AnswersTo(all, 1)
	isList(t, "to the first one", answers, ok, upTo(impl.MaxMessages)[1:]...)
	answers, ok = impl.AnswersTo(all, 2)
	isList(t, "to the second one", answers, ok)
	for _, number := range notNumbers() {
		answers, ok := impl.AnswersTo(talk(), number)
		isNoList(t, fmt.Sprint("to ", number), answers, ok)
	}
	isAsked(t, "AnswersTo", func(l impl.Log) ([]int64, bool) { return impl.AnswersTo(l, 2) })
}

// threads of talk: those whose first message is missing begin with the first one that is left.
func threads() map[int64][]int64 {
	return map[int64][]int64{2: {2, 3, 5, 6}, 9: {9, 10}, 12: {12}, 13: {13}}
}

func TestRootsAndThreads(t *testing.T) {
	for root, thread := range threads() {
		for _, number := range thread {
			got, ok := impl.RootOf(talk(), number)
			isValue(t, fmt.Sprint("the root of ", number), got, ok, root)
			list, ok := impl.ThreadOf(talk(), number)
			isList(t, fmt.Sprint("the thread of ", number), list, ok, thread...)
		}
	}
	for _, number := range notNumbers() {
		got, ok := impl.RootOf(talk(), number)
		isNothing(t, fmt.Sprint("the root of ", number), got, ok)
		list, ok := impl.ThreadOf(talk(), number)
		isNoList(t, fmt.Sprint("the thread of ", number), list, ok)
	}
	isAsked(t, "ThreadOf", func(l impl.Log) ([]int64, bool) { return impl.ThreadOf(l, 2) })
	for name, l := range badLogs() {
		got, ok := impl.RootOf(l, 2)
		isNothing(t, name, got, ok)
	}
}

// Where a message in the middle is missing, what was one thread is two.
func TestLongThreads(t *testing.T) {
	all := upTo(impl.MaxMessages)
	for _, number := range all {
		root, ok := impl.RootOf(longLog(), number)
		isValue(t, fmt.Sprint("the root of ", number), root, ok, 1)
		thread, ok := impl.ThreadOf(longLog(), number)
		isList(t, fmt.Sprint("the thread of ", number), thread, ok, all...)
	}
	cut := but(longLog(), func(l *impl.Log) { l.Messages = slices.Delete(l.Messages, 19, 20) })
	for _, m := range cut.Messages {
		first, want := int64(1), all[:19]
		if m.Number > 20 {
			first, want = 21, all[20:]
		}
		root, ok := impl.RootOf(cut, m.Number)
		isValue(t, fmt.Sprint("the root of ", m.Number), root, ok, first)
		thread, ok := impl.ThreadOf(cut, m.Number)
		isList(t, fmt.Sprint("the thread of ", m.Number), thread, ok, want...)
	}
	branches := impl.Log{Next: 8, Messages: []impl.Message{
		said(1, 7, 0, "a", 0), said(2, 7, 0, "b", 0), said(3, 7, 0, "c", 1), said(4, 7, 0, "d", 2), said(5, 7, 0, "e", 1), said(6, 7, 0, "f", 4), said(7, 7, 0, "g", 3),
	}}
	for _, thread := range [][]int64{{1, 3, 5, 7}, {2, 4, 6}} {
		for _, number := range thread {
			got, ok := impl.ThreadOf(branches, number)
			isList(t, fmt.Sprint("the branches of ", number), got, ok, thread...)
		}
	}
}

// Those who have taken a message back see that it is gone; nobody else sees it.
func TestSeenBy(t *testing.T) {
	for _, c := range []struct {
		member, since int64
		want          []int64
	}{
		{1, 0, []int64{2, 3, 6, 9, 10, 13}}, {7, 0, []int64{2, 3, 6, 9, 10, 12, 13}}, {9, 0, []int64{2, 3, 5, 6, 9, 10, 13}}, {impl.MaxMember, 0, []int64{2, 3, 6, 9, 10, 13}},
		{1, 2, []int64{2, 3, 6, 9, 10, 13}}, {1, 3, []int64{3, 6, 9, 10, 13}}, {9, 4, []int64{5, 6, 9, 10, 13}}, {9, 5, []int64{5, 6, 9, 10, 13}}, {9, 6, []int64{6, 9, 10, 13}},
		{7, 11, []int64{12, 13}}, {7, 12, []int64{12, 13}}, {7, 13, []int64{13}}, {1, 13, []int64{13}}, {7, 14, nil}, {7, 20, nil}, {7, 21, nil}, {7, impl.MaxValue, nil},
	} {
		seen, ok := impl.SeenBy(talk(), c.member, c.since)
		isList(t, fmt.Sprint(c), seen, ok, c.want...)
	}
	for _, member := range notMembers() {
		seen, ok := impl.SeenBy(talk(), member, 0)
		isNoList(t, fmt.Sprint("the member ", member), seen, ok)
	}
	for _, since := range []int64{-1, impl.MaxValue + 1, math.MinInt64, math.MaxInt64} {
		seen, ok := impl.SeenBy(talk(), 7, since)
		isNoList(t, fmt.Sprint("since ", since), seen, ok)
	}
	seen, ok := impl.SeenBy(impl.Log{Next: 1}, 7, 0)
	isList(t, "no messages", seen, ok)
	isAsked(t, "SeenBy", func(l impl.Log) ([]int64, bool) { return impl.SeenBy(l, 7, 0) })
}

// What a member says of itself is no mention, and what was taken back mentions nobody.
func TestMentionsIn(t *testing.T) {
	for member, want := range map[int64][]int64{7: {3, 13}, 8: {6}, 9: {13}, 1: nil, 70: nil, impl.MaxMember: nil} {
		mentions, ok := impl.MentionsIn(talk(), member)
		isList(t, fmt.Sprint("of ", member), mentions, ok, want...)
	}
	l := impl.Log{Next: 9}
	for i, text := range []string{"@7", "@70", "a@7b", "@07 @1000", "@7 @7", "@1001", "@ 7 7@", ""} {
		l.Messages = append(l.Messages, said(int64(i)+1, 8, 0, text, 0))
	}
	for member, want := range map[int64][]int64{7: {1, 3, 5}, 70: {2}, impl.MaxMember: {4}, 8: nil, 100: nil} {
		mentions, ok := impl.MentionsIn(l, member)
		isList(t, fmt.Sprint("of ", member), mentions, ok, want...)
	}
	back, _ := impl.TakeBack(talk(), 3, 8)
	mentions, ok := impl.MentionsIn(back, 7)
	isList(t, "what was taken back", mentions, ok, 13)
	for _, member := range notMembers() {
		mentions, ok := impl.MentionsIn(but(talk(), func(l *impl.Log) { at(l, 9).Text = fmt.Sprint("@", member) }), member)
		isNoList(t, fmt.Sprint("of ", member), mentions, ok)
	}
	isAsked(t, "MentionsIn", func(l impl.Log) ([]int64, bool) { return impl.MentionsIn(l, 7) })
}

func TestCountsOf(t *testing.T) {
	for _, c := range []struct {
		l    impl.Log
		want string
	}{
		{talk(), "[[7 3 1 3] [8 2 0 0] [9 2 1 0] [1000 1 0 4]]"}, {longLog(), "[[7 40 0 0]]"}, {impl.Log{Next: 1}, "[]"}, {impl.Log{Next: impl.MaxValue}, "[]"},
		{but(talk(), func(l *impl.Log) { l.Messages = l.Messages[2:3] }), "[[9 1 1 0]]"},
		{but(talk(), func(l *impl.Log) { at(l, 10).Sender, at(l, 3).Sender = 1, 1000 }), "[[1 1 0 0] [7 3 1 3] [9 2 1 0] [1000 2 0 4]]"},
	} {
		counts, ok := impl.CountsOf(c.l)
		isValue(t, logText(c.l), fmt.Sprint(counts), ok, c.want)
	}
	most := but(longLog(), func(l *impl.Log) {
		for i := range l.Messages {
			l.Messages[i].Sender, l.Messages[i].Likes = impl.MaxMember-int64(i), upTo(impl.MaxLikes)
		}
	})
	counts, ok := impl.CountsOf(most)
	isBool(t, "40 senders", ok && len(counts) == impl.MaxMessages, true)
	for i, row := range counts {
		isList(t, fmt.Sprint("the row ", i), row, true, impl.MaxMember-impl.MaxMessages+1+int64(i), 1, 0, impl.MaxLikes)
	}
	isAsked(t, "CountsOf", impl.CountsOf)
}

func TestDigestOfLog(t *testing.T) {
	for _, c := range []struct {
		l    impl.Log
		text string
	}{
		{impl.Log{Next: 1}, "1\n"}, {impl.Log{Next: impl.MaxValue}, "1000000000\n"},
		{talk(), "20\n2,7,0,0,0,0 8,9 hello\n3,8,2,0,0,2 none hi @7\n5,9,2,4,1,3 none \n6,7,4,3,0,5 1 ok @8 and @7\n" +
			"9,9,4,0,0,4 none so\n10,8,9,0,0,9 none well\n12,7,9,0,1,1 none \n13,1000,9,0,0,4 7,8,9,999 @9 @7\n"},
	} {
		want, _ := impl.DigestOf(c.text)
		digest, ok := impl.DigestOfLog(c.l)
		isValue(t, c.text, digest, ok, want)
	}
	for name, l := range badLogs() {
		digest, ok := impl.DigestOfLog(l)
		isNothing(t, name, digest, ok)
	}
}

// textOf writes out what DigestOfLog takes the digest of, without the program.
func textOf(l impl.Log) string {
	text := fmt.Sprintln(l.Next)
	for _, m := range l.Messages {
		isGone := map[bool]int{true: 1}[m.Gone]
		likes := strings.ReplaceAll(strings.Trim(fmt.Sprint(m.Likes), "[]"), " ", ",")
		if likes == "" {
			likes = "none"
		}
		text += fmt.Sprintf("%d,%d,%d,%d,%d,%d %s %s\n", m.Number, m.Sender, m.At, m.Edits, isGone, m.Reply, likes, m.Text)
	}
	return text
}

// The text of a digest reaches MaxBytes exactly, and fails with one byte more.
func TestDigestsUpToTheLimit(t *testing.T) {
	l := longLog()
	for i := range l.Messages {
		l.Messages[i].Text, l.Messages[i].Likes = strings.Repeat("y", impl.MaxText), upTo(6)
	}
	for i := 39; len(textOf(l)) > impl.MaxBytes; i-- {
		over := min(len(textOf(l))-impl.MaxBytes, impl.MaxText)
		l.Messages[i].Text = l.Messages[i].Text[over:]
	}
	want, ok := impl.DigestOf(textOf(l))
	isBool(t, "the text reaches the limit", ok && len(textOf(l)) == impl.MaxBytes, true)
	digest, ok := impl.DigestOfLog(l)
	isValue(t, "a text of MaxBytes", digest, ok, want)
	digest, ok = impl.DigestOfLog(but(l, func(l *impl.Log) { l.Messages[39].Text += "z" }))
	isNothing(t, "a byte more", digest, ok)
	digest, ok = impl.DigestOfLog(but(l, func(l *impl.Log) { l.Next = 100 }))
	isNothing(t, "a digit more", digest, ok)
	digest, ok = impl.DigestOfLog(but(l, func(l *impl.Log) { l.Messages[0].Likes = []int64{1, 2, 3, 4, 5, 10} }))
	isNothing(t, "a digit more in the likes", digest, ok)
}

// Logs that differ in one field have other digests.
func TestDigestsOfOtherLogs(t *testing.T) {
	first, _ := impl.DigestOfLog(talk())
	for name, change := range map[string]func(l *impl.Log){
		"Next": func(l *impl.Log) { l.Next++ }, "Number": func(l *impl.Log) { at(l, 10).Number = 11 }, "Sender": func(l *impl.Log) { at(l, 2).Sender = 6 },
		"At": func(l *impl.Log) { at(l, 10).At = 8 }, "Text": func(l *impl.Log) { at(l, 9).Text = "So" }, "Edits": func(l *impl.Log) { at(l, 13).Edits = 1 },
		"Gone": func(l *impl.Log) { at(l, 12).Gone = false }, "Reply": func(l *impl.Log) { at(l, 13).Reply = 0 }, "Likes": func(l *impl.Log) { at(l, 6).Likes[0] = 2 },
	} {
		other, ok := impl.DigestOfLog(but(talk(), change))
		isBool(t, name, ok && other != first, true)
	}
}

// An act is one of the functions that change a log, with numbers for all that it needs.
type act struct {
	name                       string
	number, member, tick, text int64
}

func (a act) words() string { return []string{"", "a", "@7 b", "c d"}[a.text] }

func (a act) run(l impl.Log) (impl.Log, bool) {
	switch a.name {
	case "PostMessage":
		l, _, ok := impl.PostMessage(l, a.member, a.tick, a.words(), a.number)
		return l, ok
	case "EditMessage":
		return impl.EditMessage(l, a.number, a.member, a.words())
	case "TakeBack":
		return impl.TakeBack(l, a.number, a.member)
	case "LikeMessage":
		return impl.LikeMessage(l, a.number, a.member)
	}
	return impl.UnlikeMessage(l, a.number, a.member)
}

// expected does the same without the program.
func (a act) expected(before impl.Log) (impl.Log, bool) {
	l := copyOfLog(before)
	m := at(&l, a.number)
	there := m.Number != 0 && !m.Gone
	if a.name == "PostMessage" {
		last := impl.Message{}
		if len(l.Messages) > 0 {
			last = l.Messages[len(l.Messages)-1]
		}
		l.Messages = append(l.Messages, said(l.Next, a.member, a.tick, a.words(), a.number))
		l.Next++
		return l, (there || a.number == 0) && a.tick >= last.At && len(l.Messages) <= impl.MaxMessages && l.Next <= impl.MaxValue
	}
	liked := slices.Contains(m.Likes, a.member)
	switch a.name {
	case "EditMessage":
		there = there && m.Sender == a.member && m.Text != a.words()
		m.Text, m.Edits = a.words(), m.Edits+1
	case "TakeBack":
		there = there && m.Sender == a.member
		m.Text, m.Likes, m.Gone = "", nil, true
	case "LikeMessage":
		there = there && !liked && m.Sender != a.member && len(m.Likes) < impl.MaxLikes
		m.Likes = append(m.Likes, a.member)
		slices.Sort(m.Likes)
	default:
		there = there && liked
		m.Likes = slices.DeleteFunc(m.Likes, func(n int64) bool { return n == a.member })
	}
	return l, there
}

// Promise 4: in long runs, numbers of messages only grow, and what is changed is one message alone.
func TestRunsOfActs(t *testing.T) {
	names := []string{"PostMessage", "EditMessage", "TakeBack", "LikeMessage", "LikeMessage", "LikeMessage", "UnlikeMessage"}
	done := map[string]int{}
	for seed := range int64(60) {
		rounds := rand.New(rand.NewSource(seed))
		l := impl.Log{Next: 1 + 1000*seed}
		if seed%10 == 9 {
			l.Next = impl.MaxValue - 20
		}
		given, first := map[int64]bool{}, l.Next
		for round := range int64(600) {
			a := act{names[rounds.Intn(len(names))], 0, 1 + rounds.Int63n(4+seed%30), round/3 - 1 + rounds.Int63n(3), rounds.Int63n(4)}
			if rounds.Intn(4) > 0 {
				a.number = max(first, l.Next-30) + rounds.Int63n(31)
			}
			m := messageIn(l, a.number)
			switch able := m.Number > 0 && rounds.Intn(2) > 0; {
			case able && (a.name == "EditMessage" || a.name == "TakeBack"):
				a.member = m.Sender
			case able && a.name == "UnlikeMessage" && len(m.Likes) > 0:
				a.member = m.Likes[rounds.Intn(len(m.Likes))]
			}
			after, ok := a.run(l)
			want, able := a.expected(l)
			if ok != able || ok && logText(after) != logText(want) {
				t.Fatalf("%v: %s becomes %s %v, want %s %v", a, logText(l), logText(after), ok, logText(want), able)
			}
			if !ok {
				isNoLog(t, a.name, after, ok)
				continue
			}
			isGrown(t, a, l, after, given)
			l = after
			done[a.name]++
			if len(l.Messages) == impl.MaxMessages && rounds.Intn(9) == 0 {
				l.Messages = slices.Delete(l.Messages, 3, 9)
			}
		}
	}
	for _, name := range names {
		isBool(t, fmt.Sprint(name, " is done often enough: ", done), done[name] > 300, true)
	}
}

// isGrown fails the test unless a message has a number that none had before, or all messages but one are as they were.
func isGrown(t *testing.T, a act, before, after impl.Log, given map[int64]bool) {
	t.Helper()
	isBool(t, a.name+": the log is valid", impl.ValidLog(after), true)
	old := len(before.Messages)
	if a.name == "PostMessage" {
		number := after.Messages[old].Number
		isBool(t, "the number is new", !given[number] && number == before.Next && after.Next == number+1, true)
		isLog(t, "the others", impl.Log{Next: before.Next, Messages: after.Messages[:old]}, true, before)
		given[number] = true
		return
	}
	isBool(t, a.name+": as many messages and numbers", len(after.Messages) == old && after.Next == before.Next, true)
	for i, m := range after.Messages {
		one, other := impl.Log{Messages: []impl.Message{m}}, impl.Log{Messages: []impl.Message{before.Messages[i]}}
		isBool(t, fmt.Sprint(a, " leaves ", m), impl.SameLog(one, other), m.Number != a.number)
	}
}
