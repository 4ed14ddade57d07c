package tests

import (
	"cmp"
	"fmt"
	"math"
	"math/rand"
	"slices"
	"strconv"
	"strings"
	"testing"

	"loop.example/g01202/impl"
)

func reminder(member, number, at, every, left int64) impl.Reminder {
	return impl.Reminder{Member: member, Number: number, At: at, Every: every, Left: left}
}

// chores are not in the order of their ticks; two of them fire once, and all but the last one fire at 15.
func chores() []impl.Reminder {
	return []impl.Reminder{reminder(7, 3, 15, 0, 1), reminder(7, 1, 5, 10, 2), reminder(6, 2, 10, 5, 20), reminder(7, 3, 15, 4, 1), reminder(1000, 1, 0, 3, 6), reminder(6, 9, 20, 100, 3)}
}

func manyReminders(n int) []impl.Reminder {
	list := make([]impl.Reminder, n)
	for i := range list {
		list[i] = reminder(int64(i)%1000+1, 5, int64(n-i), 7, 3)
	}
	return list
}

// badReminders are no reminders, each in one way.
func badReminders() map[string]impl.Reminder {
	bad := map[string]impl.Reminder{"the empty reminder": {}}
	for _, good := range []impl.Reminder{reminder(7, 1, 5, 10, 2), reminder(7, 1, 5, 10, 1), reminder(7, 1, 5, 0, 1)} {
		with := func(name string, n int64, change func(r *impl.Reminder)) {
			r := good
			change(&r)
			bad[fmt.Sprint(name, " ", n, " in ", good)] = r
		}
		for _, n := range notMembers() {
			with("Member", n, func(r *impl.Reminder) { r.Member = n })
		}
		for _, n := range append(notAmounts(), 0) {
			with("Number", n, func(r *impl.Reminder) { r.Number = n })
		}
		for _, n := range notTicks() {
			with("At", n, func(r *impl.Reminder) { r.At = n })
			with("Every", n, func(r *impl.Reminder) { r.Every = n })
		}
		for _, n := range []int64{0, -1, -2, impl.MaxFirings + 1, impl.MaxFirings + 2, math.MinInt64, math.MaxInt64} {
			with("Left", n, func(r *impl.Reminder) { r.Left = n })
		}
	}
	for _, left := range []int64{2, 3, impl.MaxFirings} {
		bad[fmt.Sprint("Every 0 and Left ", left)] = reminder(7, 1, 5, 0, left)
	}
	return bad
}

// notReminders are lists that functions with reminders do not take.
func notReminders() map[string][]impl.Reminder {
	bad := map[string][]impl.Reminder{"31 reminders": manyReminders(impl.MaxReminders + 1), "20000 reminders": manyReminders(20000), "20000 empty reminders": make([]impl.Reminder, 20000)}
	for name, r := range badReminders() {
		bad[name+", alone"] = []impl.Reminder{r}
		bad[name+", first"] = append([]impl.Reminder{r}, chores()...)
		bad[name+", last"] = append(chores(), r)
	}
	return bad
}

// notPins are lists of numbers that are no pins.
func notPins() [][]int64 {
	return [][]int64{
		{0}, {-1}, {0, 2}, {2, 2}, {3, 2}, {2, 3, 3}, {2, 9, 5}, {impl.MaxValue + 1}, {2, impl.MaxValue + 1}, {math.MinInt64, 2}, {2, math.MaxInt64}, upTo(impl.MaxItems + 1), upTo(20000),
	}
}

// isDue fails the test unless reminders fire as they should, and leave what they should.
func isDue(t *testing.T, what string, list []impl.Reminder, now int64, fired [][]int64, left ...impl.Reminder) {
	t.Helper()
	got, rest, ok := impl.DueReminders(list, now)
	if !ok || fmt.Sprint(got) != fmt.Sprint(fired) || !slices.Equal(rest, left) {
		t.Errorf("%s up to %d: got %v %v %v, want %v %v true", what, now, got, rest, ok, fired, left)
	}
}

// linesOf writes out the lines of messages, each with its newline, without the program.
func linesOf(messages ...impl.Message) []string {
	_, lines, _ := strings.Cut(textOf(impl.Log{Messages: messages}), "\n")
	all := strings.SplitAfter(lines, "\n")
	return all[:len(all)-1]
}

// bodiesOf writes out the bodies of the blocks of a log, without the program.
func bodiesOf(l impl.Log, size int) []string {
	var bodies []string
	for lines := range slices.Chunk(linesOf(l.Messages...), size) {
		bodies = append(bodies, strings.Join(lines, ""))
	}
	return bodies
}

// sealed returns the blocks of bodies, without the program but for the digests. The bodies may have anything in them.
func sealed(bodies ...string) []impl.Block {
	before, _ := impl.DigestOf("")
	var blocks []impl.Block
	for _, body := range bodies {
		digest, _ := impl.DigestOf(before + body)
		number, _, _ := strings.Cut(body, ",")
		from, _ := strconv.ParseInt(number, 10, 64)
		blocks = append(blocks, impl.Block{Before: before, Digest: digest, From: from, Count: int64(strings.Count(body, "\n")), Body: body})
		before = digest
	}
	return blocks
}

// areSound fails the test unless blocks are sound, and have the messages of a log.
func areSound(t *testing.T, what string, blocks []impl.Block, l impl.Log) {
	t.Helper()
	isBool(t, what+": AreBlocks", impl.AreBlocks(blocks), true)
	bad, ok := impl.FirstBad(blocks)
	isNothing(t, what+": FirstBad", bad, ok)
	got, ok := impl.ImportBlocks(blocks, l.Next)
	isLog(t, what+": ImportBlocks", got, ok, l)
}

// areBadAt fails the test unless blocks are sound up to one of them, but not with it.
func areBadAt(t *testing.T, what string, blocks []impl.Block, place int64) {
	t.Helper()
	isBool(t, what+": AreBlocks", impl.AreBlocks(blocks), false)
	bad, ok := impl.FirstBad(blocks)
	isValue(t, what+": FirstBad", bad, ok, place)
	for _, next := range []int64{20, impl.MaxValue} {
		l, ok := impl.ImportBlocks(blocks, next)
		isNoLog(t, what+": ImportBlocks", l, ok)
	}
	isBool(t, what+": those before", impl.AreBlocks(blocks[:place]), true)
}

// butBlock returns blocks one of which is changed.
func butBlock(blocks []impl.Block, place int, change func(b *impl.Block)) []impl.Block {
	blocks = slices.Clone(blocks)
	change(&blocks[place])
	return blocks
}

// withByte returns bytes one of which is another one.
func withByte(s string, place int, b byte) string { return s[:place] + string([]byte{b}) + s[place+1:] }

// The examples of chapter 9.
func TestExamplesOfBlocks(t *testing.T) {
	isDue(t, "a reminder", []impl.Reminder{reminder(7, 1, 5, 10, 2)}, 20, [][]int64{{5, 7, 1}, {15, 7, 1}})
	line, ok := impl.MessageLine(said(1, 7, 3, "hi", 0))
	isValue(t, "a line", line, ok, "1,7,3,0,0,0 none hi")
}

func TestConstantsOfBlocks(t *testing.T) {
	isList(t, "limits", []int64{impl.MaxReminders, impl.MaxFirings, impl.MaxBlocks}, true, 30, 20, 40)
}

func TestIsReminder(t *testing.T) {
	for _, r := range slices.Concat(chores(), manyReminders(impl.MaxReminders), []impl.Reminder{
		reminder(1, 1, 0, 0, 1), reminder(1, 1, 0, 1, 1), reminder(1, 1, 0, impl.MaxTick, 1), reminder(1, 1, 0, 1, 2), reminder(1, 1, 0, 1, impl.MaxFirings), reminder(1, 1, 0, impl.MaxTick, impl.MaxFirings),
		reminder(impl.MaxMember, impl.MaxValue, impl.MaxTick, 0, 1), reminder(impl.MaxMember, impl.MaxValue, impl.MaxTick, impl.MaxTick, impl.MaxFirings),
	}) {
		isBool(t, fmt.Sprint(r), impl.IsReminder(r), true)
	}
	for name, r := range badReminders() {
		isBool(t, name, impl.IsReminder(r), false)
	}
}

func TestDueReminders(t *testing.T) {
	list := chores()
	last, ten, three := reminder(6, 9, 20, 100, 3), reminder(6, 2, 15, 5, 19), func(at, left int64) impl.Reminder { return reminder(1000, 1, at, 3, left) }
	isDue(t, "chores", list, 0, [][]int64{{0, 1000, 1}}, list[0], list[1], list[2], list[3], three(3, 5), last)
	isDue(t, "chores", list, 4, [][]int64{{0, 1000, 1}, {3, 1000, 1}}, list[0], list[1], list[2], list[3], three(6, 4), last)
	isDue(t, "chores", list, 5, [][]int64{{0, 1000, 1}, {3, 1000, 1}, {5, 7, 1}}, list[0], reminder(7, 1, 15, 10, 1), list[2], list[3], three(6, 4), last)
	before := [][]int64{{0, 1000, 1}, {3, 1000, 1}, {5, 7, 1}, {6, 1000, 1}, {9, 1000, 1}, {10, 6, 2}, {12, 1000, 1}}
	isDue(t, "chores", list, 14, before, list[0], reminder(7, 1, 15, 10, 1), ten, list[3], three(15, 1), last)
	isDue(t, "chores", list, 15, append(before, []int64{15, 6, 2}, []int64{15, 7, 1}, []int64{15, 7, 3}, []int64{15, 7, 3}, []int64{15, 1000, 1}), reminder(6, 2, 20, 5, 18), last)
	one := reminder(7, 1, 5, 10, 3)
	for now, c := range map[int64]struct {
		fired [][]int64
		left  []impl.Reminder
	}{
		0: {nil, []impl.Reminder{one}}, 4: {nil, []impl.Reminder{one}}, 5: {[][]int64{{5, 7, 1}}, []impl.Reminder{reminder(7, 1, 15, 10, 2)}}, 6: {[][]int64{{5, 7, 1}}, []impl.Reminder{reminder(7, 1, 15, 10, 2)}},
		14: {[][]int64{{5, 7, 1}}, []impl.Reminder{reminder(7, 1, 15, 10, 2)}}, 15: {[][]int64{{5, 7, 1}, {15, 7, 1}}, []impl.Reminder{reminder(7, 1, 25, 10, 1)}}, 24: {[][]int64{{5, 7, 1}, {15, 7, 1}}, []impl.Reminder{reminder(7, 1, 25, 10, 1)}},
		25: {[][]int64{{5, 7, 1}, {15, 7, 1}, {25, 7, 1}}, nil}, 26: {[][]int64{{5, 7, 1}, {15, 7, 1}, {25, 7, 1}}, nil}, impl.MaxTick: {[][]int64{{5, 7, 1}, {15, 7, 1}, {25, 7, 1}}, nil},
	} {
		isDue(t, "one", []impl.Reminder{one}, now, c.fired, c.left...)
	}
	// An Every does not matter for the last firing.
	for _, every := range []int64{0, 1, 10, impl.MaxTick} {
		once := reminder(7, 1, 5, every, 1)
		isDue(t, "once", []impl.Reminder{once}, 4, nil, once)
		isDue(t, "once", []impl.Reminder{once}, 5, [][]int64{{5, 7, 1}})
		isDue(t, "once", []impl.Reminder{once}, impl.MaxTick, [][]int64{{5, 7, 1}})
	}
	for _, none := range [][]impl.Reminder{nil, {}} {
		isDue(t, "no reminders", none, 0, nil)
		isDue(t, "no reminders", none, impl.MaxTick, nil)
	}
}

func TestRemindersThatFireTogether(t *testing.T) {
	same := reminder(7, 1, 5, 5, 2)
	isDue(t, "the same twice", []impl.Reminder{same, same}, 5, [][]int64{{5, 7, 1}, {5, 7, 1}}, reminder(7, 1, 10, 5, 1), reminder(7, 1, 10, 5, 1))
	isDue(t, "the same twice", []impl.Reminder{same, same}, 10, [][]int64{{5, 7, 1}, {5, 7, 1}, {10, 7, 1}, {10, 7, 1}})
	isDue(t, "a first and a second firing", []impl.Reminder{reminder(7, 1, 10, 0, 1), same, reminder(7, 1, 9, 1, 2)}, 10, [][]int64{{5, 7, 1}, {9, 7, 1}, {10, 7, 1}, {10, 7, 1}, {10, 7, 1}})
	isDue(t, "lists, not texts", []impl.Reminder{reminder(10, 2, 100, 0, 1), reminder(9, 10, 100, 0, 1), reminder(9, 9, 100, 0, 1), reminder(800, 1, 20, 0, 1), reminder(1, 1, 3, 0, 1)}, 100,
		[][]int64{{3, 1, 1}, {20, 800, 1}, {100, 9, 9}, {100, 9, 10}, {100, 10, 2}})
	many := manyReminders(impl.MaxReminders)
	for _, now := range []int64{0, 1, 20, 30, 44, impl.MaxReminders + 100} {
		fired, left := runReminders(many, 0, now)
		isDue(t, "30 reminders, backwards", many, now, fired, left...)
	}
	most := slices.Repeat([]impl.Reminder{reminder(impl.MaxMember, impl.MaxValue, 0, 1, impl.MaxFirings)}, impl.MaxReminders)
	all, left, ok := impl.DueReminders(most, impl.MaxTick)
	isBool(t, "600 firings", ok && len(all) == impl.MaxReminders*impl.MaxFirings && len(left) == 0, true)
	for i, row := range all {
		isList(t, "one of them", row, true, int64(i/impl.MaxReminders), impl.MaxMember, impl.MaxValue)
	}
}

// The last tick is the last one at which a reminder fires.
func TestRemindersAtTheLastTick(t *testing.T) {
	const end = impl.MaxTick
	for _, c := range []struct {
		r     impl.Reminder
		now   int64
		ticks []int64
		left  []impl.Reminder
	}{
		{reminder(7, 1, end, 0, 1), end, []int64{end}, nil}, {reminder(7, 1, end, 0, 1), end - 1, nil, []impl.Reminder{reminder(7, 1, end, 0, 1)}},
		{reminder(7, 1, end, 1, 2), end, []int64{end}, nil}, {reminder(7, 1, end, end, impl.MaxFirings), end, []int64{end}, nil},
		{reminder(7, 1, end-10, 10, 3), end, []int64{end - 10, end}, nil}, {reminder(7, 1, end-10, 10, 3), end - 1, []int64{end - 10}, []impl.Reminder{reminder(7, 1, end, 10, 2)}},
		{reminder(7, 1, end-10, 11, 3), end, []int64{end - 10}, nil}, {reminder(7, 1, end-10, 11, 3), end - 10, []int64{end - 10}, nil}, {reminder(7, 1, end-10, 10, 3), end - 10, []int64{end - 10}, []impl.Reminder{reminder(7, 1, end, 10, 2)}},
		{reminder(7, 1, 0, end, 2), end, []int64{0, end}, nil}, {reminder(7, 1, 0, end, 2), end - 1, []int64{0}, []impl.Reminder{reminder(7, 1, end, end, 1)}}, {reminder(7, 1, 1, end, 2), 1, []int64{1}, nil},
		{reminder(7, 1, end-18, 1, impl.MaxFirings), end, []int64{end - 18, end - 17, end - 16, end - 15, end - 14, end - 13, end - 12, end - 11, end - 10, end - 9, end - 8, end - 7, end - 6, end - 5, end - 4, end - 3, end - 2, end - 1, end}, nil},
	} {
		var fired [][]int64
		for _, tick := range c.ticks {
			fired = append(fired, []int64{tick, 7, 1})
		}
		isDue(t, fmt.Sprint(c.r), []impl.Reminder{c.r}, c.now, fired, c.left...)
	}
}

func TestRemindersThatAreNone(t *testing.T) {
	for name, list := range notReminders() {
		for _, now := range []int64{0, 20, impl.MaxTick} {
			fired, left, ok := impl.DueReminders(list, now)
			isBool(t, name+": no firings", len(fired) == 0, true)
			isNoList(t, name, left, ok)
		}
		next, ok := impl.NextReminder(list)
		isNothing(t, name+": the next one", next, ok)
	}
	for _, now := range notTicks() {
		for _, list := range [][]impl.Reminder{nil, chores()} {
			fired, left, ok := impl.DueReminders(list, now)
			isBool(t, "no firings", len(fired) == 0, true)
			isNoList(t, fmt.Sprint("up to ", now), left, ok)
		}
	}
}

func TestNextReminder(t *testing.T) {
	for _, c := range []struct {
		list []impl.Reminder
		next int64
	}{
		{chores(), 0}, {chores()[:4], 5}, {chores()[:1], 15}, {chores()[2:4], 10}, {chores()[5:], 20}, {manyReminders(impl.MaxReminders), 1}, {manyReminders(1), 1},
		{[]impl.Reminder{reminder(7, 1, impl.MaxTick, 0, 1)}, impl.MaxTick}, {[]impl.Reminder{reminder(1, 1, 9, 0, 1), reminder(7, 7, 9, 0, 1)}, 9}, {[]impl.Reminder{reminder(1, 1, 9, 0, 1), reminder(7, 7, 8, 9, 2)}, 8},
	} {
		next, ok := impl.NextReminder(c.list)
		isValue(t, fmt.Sprint(c.list), next, ok, c.next)
	}
	for _, none := range [][]impl.Reminder{nil, {}} {
		next, ok := impl.NextReminder(none)
		isNothing(t, "no reminders", next, ok)
	}
}

// thinned returns a log without some of its messages.
func thinned(l impl.Log, numbers ...int64) impl.Log {
	return but(l, func(l *impl.Log) {
		l.Messages = slices.DeleteFunc(l.Messages, func(m impl.Message) bool { return slices.Contains(numbers, m.Number) })
	})
}

func TestSweepLog(t *testing.T) {
	// The messages 2, 3, 5, 6, 9, 10, 12 and 13 of talk are of the ticks 0, 2, 2, 4, 4, 9, 9 and 9.
	for name, c := range map[string]struct {
		now, age, keep int64
		pins           []int64
		old            []int64
	}{
		"none is old": {9, 9, 0, nil, nil}, "the first one is a tick older": {10, 9, 0, nil, []int64{2}}, "just as old as the age": {11, 9, 0, nil, []int64{2}}, "two are a tick older": {12, 9, 0, nil, []int64{2, 3, 5}},
		"the age 0": {9, 0, 0, nil, []int64{2, 3, 5, 6, 9}}, "the age 0, a tick later": {10, 0, 0, nil, []int64{2, 3, 5, 6, 9, 10, 12, 13}}, "all are old": {19, 9, 0, nil, []int64{2, 3, 5, 6, 9, 10, 12, 13}}, "not yet all": {18, 9, 0, nil, []int64{2, 3, 5, 6, 9}},
		"messages to come": {0, 0, 0, nil, nil}, "some of them to come": {3, 0, 0, nil, []int64{2, 3, 5}}, "some to come, and an age": {3, 1, 0, nil, []int64{2}}, "the last tick": {impl.MaxTick, impl.MaxTick, 0, nil, nil}, "the tick before as the age": {impl.MaxTick, impl.MaxTick - 1, 0, nil, []int64{2}},
		"the greatest age": {5, impl.MaxTick, 0, nil, nil}, "the last tick, the age 0": {impl.MaxTick, 0, 0, nil, []int64{2, 3, 5, 6, 9, 10, 12, 13}},
		"keep 1": {100, 0, 1, nil, []int64{2, 3, 5, 6, 9, 10, 12}}, "keep 2": {100, 0, 2, nil, []int64{2, 3, 5, 6, 9, 10}}, "keep 7": {100, 0, 7, nil, []int64{2}}, "keep as many as there are": {100, 0, 8, nil, nil}, "keep one more": {100, 0, 9, nil, nil}, "keep MaxMessages": {100, 0, impl.MaxMessages, nil, nil},
		"keep some that are young": {12, 9, 3, nil, []int64{2, 3, 5}}, "keep some that are old": {12, 9, 6, nil, []int64{2, 3}}, "keep all but the old ones": {12, 9, 5, nil, []int64{2, 3, 5}},
		"pins of old ones": {100, 0, 0, []int64{2, 6, 13}, []int64{3, 5, 9, 10, 12}}, "a pin of one that is gone": {100, 0, 0, []int64{5}, []int64{2, 3, 6, 9, 10, 12, 13}}, "a pin of a young one": {12, 9, 0, []int64{10}, []int64{2, 3, 5}}, "pins of all": {100, 0, 0, []int64{2, 3, 5, 6, 9, 10, 12, 13}, nil},
		"pins of none": {100, 0, 0, []int64{1, 4, 7, 8, 11, 14, 19, 20, 21, impl.MaxValue}, []int64{2, 3, 5, 6, 9, 10, 12, 13}}, "300 pins": {100, 0, 0, upTo(impl.MaxItems), nil}, "299 pins": {100, 0, 0, upTo(impl.MaxItems)[1:], nil}, "an empty list of pins": {12, 9, 0, []int64{}, []int64{2, 3, 5}},
		"a pin and keep": {100, 0, 2, []int64{3}, []int64{2, 5, 6, 9, 10}}, "a pin of one that is kept": {100, 0, 2, []int64{13}, []int64{2, 3, 5, 6, 9, 10}}, "a pin does not count for keep": {100, 0, 1, []int64{12}, []int64{2, 3, 5, 6, 9, 10}},
	} {
		l, ok := impl.SweepLog(talk(), c.now, c.age, c.keep, c.pins)
		isLog(t, name, l, ok, thinned(talk(), c.old...))
		again, ok := impl.SweepLog(l, c.now, c.age, c.keep, c.pins)
		isLog(t, name+", a second time", again, ok, l)
	}
}

// What is left is as it was: replies to messages that are swept, and Next, stay.
func TestWhatSweepsLeave(t *testing.T) {
	l, ok := impl.SweepLog(talk(), 6, 3, 0, nil)
	isLog(t, "talk", l, ok, impl.Log{Next: 20, Messages: []impl.Message{messageIn(talk(), 6), messageIn(talk(), 9), messageIn(talk(), 10), messageIn(talk(), 12), messageIn(talk(), 13)}})
	isValue(t, "a reply to one that is swept", messageIn(l, 6).Reply, true, 5)
	root, ok := impl.RootOf(l, 6)
	isValue(t, "its root", root, ok, 6)
	_, number, ok := impl.PostMessage(l, 7, 9, "x", 0)
	isValue(t, "the next number", number, ok, 20)
	for _, next := range []int64{1, 20, impl.MaxValue} {
		for _, messages := range [][]impl.Message{nil, {}} {
			l, ok := impl.SweepLog(impl.Log{Next: next, Messages: messages}, 5, 0, 0, nil)
			isLog(t, "no messages", l, ok, impl.Log{Next: next})
		}
	}
	l, ok = impl.SweepLog(longLog(), 6, 0, 0, nil)
	isLog(t, "40 messages", l, ok, impl.Log{Next: 41})
	l, ok = impl.SweepLog(longLog(), 6, 0, impl.MaxMessages-1, nil)
	isLog(t, "39 are kept", l, ok, thinned(longLog(), 1))
	l, ok = impl.SweepLog(longLog(), 6, 0, impl.MaxMessages, nil)
	isLog(t, "40 are kept", l, ok, longLog())
}

func TestLogsThatAreNotSwept(t *testing.T) {
	for name, l := range badLogs() {
		for _, keep := range []int64{0, 40} {
			swept, ok := impl.SweepLog(l, 12, 9, keep, nil)
			isNoLog(t, name, swept, ok)
		}
	}
	for _, l := range []impl.Log{talk(), {Next: 1}} {
		for _, n := range notTicks() {
			swept, ok := impl.SweepLog(l, n, 9, 0, nil)
			isNoLog(t, fmt.Sprint("at ", n), swept, ok)
			swept, ok = impl.SweepLog(l, 12, n, 0, nil)
			isNoLog(t, fmt.Sprint("the age ", n), swept, ok)
		}
		for _, n := range []int64{-1, -40, impl.MaxMessages + 1, impl.MaxValue, math.MinInt64, math.MaxInt64} {
			swept, ok := impl.SweepLog(l, 12, 9, n, nil)
			isNoLog(t, fmt.Sprint("keep ", n), swept, ok)
		}
		for _, pins := range notPins() {
			swept, ok := impl.SweepLog(l, 12, 9, 0, pins)
			isNoLog(t, fmt.Sprintf("the pins %.60v", fmt.Sprint(pins)), swept, ok)
		}
	}
}

func TestHolesOf(t *testing.T) {
	full := upTo(impl.MaxItems)
	for i := range full {
		full[i] += 5
	}
	for name, c := range map[string]struct {
		l     impl.Log
		holes []int64
	}{
		"talk": {talk(), []int64{4, 7, 8, 11, 14, 15, 16, 17, 18, 19}}, "none behind the last one": {but(talk(), func(l *impl.Log) { l.Next = 14 }), []int64{4, 7, 8, 11}}, "one behind the last one": {but(talk(), func(l *impl.Log) { l.Next = 15 }), []int64{4, 7, 8, 11, 14}},
		"no holes": {longLog(), nil}, "only behind": {but(longLog(), func(l *impl.Log) { l.Next = 43 }), []int64{41, 42}}, "only between": {thinned(longLog(), 2, 39), []int64{2, 39}}, "ahead of the first one": {thinned(longLog(), 1, 2, 3), nil}, "ahead and between": {thinned(longLog(), 1, 2, 9), []int64{9}},
		"the last one is gone": {thinned(longLog(), 40), []int64{40}}, "one message": {impl.Log{Next: 6, Messages: []impl.Message{said(5, 7, 0, "x", 0)}}, nil}, "one message, and two holes": {impl.Log{Next: 8, Messages: []impl.Message{said(5, 7, 0, "x", 0)}}, []int64{6, 7}},
		"no messages": {impl.Log{Next: 1}, nil}, "no messages any more": {impl.Log{Next: impl.MaxValue}, nil}, "an empty list": {impl.Log{Next: 500, Messages: []impl.Message{}}, nil}, "a great number": {impl.Log{Next: impl.MaxValue, Messages: []impl.Message{said(impl.MaxValue-2, 7, 0, "x", 0)}}, []int64{impl.MaxValue - 1}},
		"300 behind":      {impl.Log{Next: 306, Messages: []impl.Message{said(5, 7, 0, "x", 0)}}, full},
		"300 between":     {impl.Log{Next: 307, Messages: []impl.Message{said(5, 7, 0, "x", 0), said(306, 7, 0, "x", 0)}}, full},
		"300 in all":      {impl.Log{Next: 307, Messages: []impl.Message{said(5, 7, 0, "x", 0), said(100, 7, 0, "x", 0)}}, slices.Concat(full[:94], full[95:], []int64{306})},
		"a gap of a lot":  {impl.Log{Next: 1000, Messages: []impl.Message{said(999, 7, 0, "x", 0)}}, nil},
		"one that's gone": {impl.Log{Next: 4, Messages: []impl.Message{said(1, 7, 0, "x", 0), gone(2, 7, 0, 0, 0)}}, []int64{3}},
	} {
		holes, ok := impl.HolesOf(c.l)
		isList(t, name, holes, ok, c.holes...)
	}
	for name, l := range map[string]impl.Log{
		"301 behind": {Next: 307, Messages: []impl.Message{said(5, 7, 0, "x", 0)}}, "301 between": {Next: 308, Messages: []impl.Message{said(5, 7, 0, "x", 0), said(307, 7, 0, "x", 0)}}, "301 in all": {Next: 308, Messages: []impl.Message{said(5, 7, 0, "x", 0), said(100, 7, 0, "x", 0)}},
		"nearly all": {Next: impl.MaxValue, Messages: []impl.Message{said(1, 7, 0, "x", 0)}}, "talk and a lot": but(talk(), func(l *impl.Log) { l.Next = impl.MaxValue }),
	} {
		holes, ok := impl.HolesOf(l)
		isNoList(t, name, holes, ok)
	}
	for name, l := range badLogs() {
		holes, ok := impl.HolesOf(l)
		isNoList(t, name, holes, ok)
	}
}

func TestAgesOf(t *testing.T) {
	for now, want := range map[int64][]int64{9: {9, 7, 7, 5, 5, 0, 0, 0}, 10: {10, 8, 8, 6, 6, 1, 1, 1}, 100: {100, 98, 98, 96, 96, 91, 91, 91}, impl.MaxTick: {impl.MaxTick, impl.MaxTick - 2, impl.MaxTick - 2, impl.MaxTick - 4, impl.MaxTick - 4, impl.MaxTick - 9, impl.MaxTick - 9, impl.MaxTick - 9}} {
		ages, ok := impl.AgesOf(talk(), now)
		isList(t, fmt.Sprint("at ", now), ages, ok, want...)
	}
	ages, ok := impl.AgesOf(impl.Log{Next: 2, Messages: []impl.Message{said(1, 7, impl.MaxTick, "x", 0)}}, impl.MaxTick)
	isList(t, "the age 0", ages, ok, 0)
	ages, ok = impl.AgesOf(impl.Log{Next: 2, Messages: []impl.Message{said(1, 7, 0, "x", 0)}}, 0)
	isList(t, "the age 0 at 0", ages, ok, 0)
	for _, now := range append(notTicks(), 0, 3, 4, 8) {
		ages, ok := impl.AgesOf(talk(), now)
		isNoList(t, fmt.Sprint("at ", now), ages, ok)
	}
	for _, messages := range [][]impl.Message{nil, {}} {
		for _, now := range []int64{0, 5, impl.MaxTick} {
			ages, ok := impl.AgesOf(impl.Log{Next: 5, Messages: messages}, now)
			isList(t, "no messages", ages, ok)
		}
		for _, now := range notTicks() {
			ages, ok := impl.AgesOf(impl.Log{Next: 5, Messages: messages}, now)
			isNoList(t, fmt.Sprint("no messages at ", now), ages, ok)
		}
	}
	for name, l := range badLogs() {
		ages, ok := impl.AgesOf(l, 100)
		isNoList(t, name, ages, ok)
	}
}

// isMessage fails the test unless a message is the one that it should be; no likes and nil are the same.
func isMessage(t *testing.T, what string, got impl.Message, ok bool, want impl.Message) {
	t.Helper()
	isLog(t, what, impl.Log{Messages: []impl.Message{got}}, ok, impl.Log{Messages: []impl.Message{want}})
}

// someMessages are messages with all that a line can have, by their lines.
func someMessages() map[string]impl.Message {
	liked := said(2, 7, 0, "hello", 0)
	liked.Likes = []int64{8, 9, 1000}
	edited := said(6, 7, 4, "ok", 5)
	edited.Edits = 3
	all := impl.Message{Number: impl.MaxValue, Sender: impl.MaxMember, At: impl.MaxTick, Text: strings.Repeat("~", impl.MaxText), Edits: impl.MaxValue, Reply: impl.MaxValue - 1, Likes: upTo(impl.MaxLikes)}
	return map[string]impl.Message{
		"1,7,3,0,0,0 none hi": said(1, 7, 3, "hi", 0), "2,7,0,0,0,0 8,9,1000 hello": liked, "6,7,4,3,0,5 none ok": edited, "3,8,2,0,0,2 none hi @7": said(3, 8, 2, "hi @7", 2), "5,9,2,4,1,3 none ": gone(5, 9, 2, 4, 3), "1,1,0,0,1,0 none ": gone(1, 1, 0, 0, 0),
		"1,1,0,0,0,0 none ": said(1, 1, 0, "", 0), "1,1,0,0,0,0 none  ": said(1, 1, 0, " ", 0), "1,1,0,0,0,0 none  hi": said(1, 1, 0, " hi", 0), "1,1,0,0,0,0 none   a  b ": said(1, 1, 0, "  a  b ", 0), "1,1,0,0,0,0 none none hi": said(1, 1, 0, "none hi", 0), "1,1,0,0,0,0 none 2,3 hi": said(1, 1, 0, "2,3 hi", 0),
		"1000000000,1000,1000000,1000000000,0,999999999 1,2,3,4,5,6,7,8,9,10,11,12,13,14,15,16,17,18,19,20 " + strings.Repeat("~", 80): all,
	}
}

func TestLinesOfMessages(t *testing.T) {
	for want, m := range someMessages() {
		line, ok := impl.MessageLine(m)
		isValue(t, want, line, ok, want)
		back, ok := impl.ReadLine(want)
		isMessage(t, want, back, ok, m)
	}
	for _, l := range []impl.Log{talk(), longLog(), pets(), endOfDay()} {
		lines := linesOf(l.Messages...)
		for i, m := range l.Messages {
			line, ok := impl.MessageLine(m)
			isValue(t, lines[i], line+"\n", ok, lines[i])
			back, ok := impl.ReadLine(line)
			isMessage(t, line, back, ok, m)
		}
	}
	empty := said(1, 7, 3, "hi", 0)
	empty.Likes = []int64{}
	line, ok := impl.MessageLine(empty)
	isValue(t, "an empty list of likes", line, ok, "1,7,3,0,0,0 none hi")
}

// badMessages are not valid, each in one way.
func badMessages() map[string]impl.Message {
	bad := map[string]impl.Message{"the empty message": {}}
	for name, change := range map[string]func(m *impl.Message){
		"Number 0": func(m *impl.Message) { m.Number = 0 }, "Number -1": func(m *impl.Message) { m.Number = -1 }, "Number too great": func(m *impl.Message) { m.Number = impl.MaxValue + 1 }, "the greatest Number": func(m *impl.Message) { m.Number = math.MaxInt64 },
		"Sender 0": func(m *impl.Message) { m.Sender = 0 }, "Sender too great": func(m *impl.Message) { m.Sender = impl.MaxMember + 1 }, "At -1": func(m *impl.Message) { m.At = -1 }, "At too great": func(m *impl.Message) { m.At = impl.MaxTick + 1 },
		"Edits -1": func(m *impl.Message) { m.Edits = -1 }, "Edits too great": func(m *impl.Message) { m.Edits = impl.MaxValue + 1 }, "Reply -1": func(m *impl.Message) { m.Reply = -1 }, "Reply is Number": func(m *impl.Message) { m.Reply = 6 }, "Reply is greater": func(m *impl.Message) { m.Reply = 7 },
		"gone with a text": func(m *impl.Message) { m.Gone, m.Likes = true, nil }, "gone with a blank": func(m *impl.Message) { m.Gone, m.Likes, m.Text = true, nil, " " }, "gone with a like": func(m *impl.Message) { m.Gone, m.Text = true, "" },
		"a like of the Sender": func(m *impl.Message) { m.Likes = []int64{7} }, "likes fall": func(m *impl.Message) { m.Likes = []int64{9, 8} }, "a like twice": func(m *impl.Message) { m.Likes = []int64{8, 8} }, "like 0": func(m *impl.Message) { m.Likes = []int64{0} }, "like 1001": func(m *impl.Message) { m.Likes = []int64{1001} },
		"21 likes": func(m *impl.Message) { m.Sender, m.Likes = 99, upTo(impl.MaxLikes+1) }, "301 likes": func(m *impl.Message) { m.Sender, m.Likes = 999, upTo(impl.MaxItems+1) },
	} {
		m := messageIn(talk(), 6)
		m.Likes = []int64{1}
		change(&m)
		bad[name] = m
	}
	for _, text := range notTexts() {
		bad[fmt.Sprintf("the text %.20q", text)] = said(6, 7, 4, text, 5)
	}
	return bad
}

func TestLinesOfNoMessage(t *testing.T) {
	for name, m := range badMessages() {
		line, ok := impl.MessageLine(m)
		isNothing(t, name, line, ok)
		// What its line would be is not that of a valid message.
		written := strings.Join(linesOf(m), "")
		back, ok := impl.ReadLine(strings.TrimSuffix(written, "\n"))
		isMessage(t, name, back, !ok, impl.Message{})
	}
	for _, line := range append(oddStrings(), notLines()...) {
		m, ok := impl.ReadLine(line)
		isMessage(t, fmt.Sprintf("%.60q", line), m, !ok, impl.Message{})
	}
}

// notLines are much like lines.
func notLines() []string {
	const good = "2,7,3,0,0,0 8,9 hi"
	lines := []string{
		"", " ", "  ", "   ", "hi", "2,7,3,0,0,0", "2,7,3,0,0,0 ", "2,7,3,0,0,0 none", "2,7,3,0,0,0 8,9", "2,7,3,0,0,0  hi", "2,7,3,0,0,0  none hi", " 2,7,3,0,0,0 none hi", "none none hi", "none 8,9 hi", "8,9 hi", "2,7,3,0,0,0 hi", "2,7,3,0,0,0 hi there",
		"2,7,3,0,0 none hi", "2,7,3,0,0,0,0 none hi", "2,7,3,0,0,0, none hi", ",2,7,3,0,0,0 none hi", "2,,7,3,0,0,0 none hi", "2,7,3,0,0, none hi", "2, 7,3,0,0,0 none hi", "2,7,3,0,0,0\tnone hi", "2,7,3,0,0,0 none\thi", "2,7,3,0,0,0 none hi\n", "2,7,3,0,0,0 none hi\r", "\n2,7,3,0,0,0 none hi",
		"02,7,3,0,0,0 none hi", "2,07,3,0,0,0 none hi", "2,7,03,0,0,0 none hi", "2,7,3,00,0,0 none hi", "2,7,3,0,00,0 none hi", "2,7,3,0,0,00 none hi", "2,7,3,0,0,01 none hi", "2,7,3,0,01,0 none ", "+2,7,3,0,0,0 none hi", "2,7,3,-0,0,0 none hi", "2,7,3,0,-0,0 none hi", "2,7,3,0,0,-0 none hi", "2,7,3,0,0,0x0 none hi",
		"2,7,3,0,2,0 none hi", "2,7,3,0,2,0 none ", "2,7,3,0,-1,0 none hi", "2,7,3,0,-1,0 none ", "2,7,3,0,1000000000,0 none hi", "2,7,3,0,none,0 none hi", "2,7,3,0,1,0 none hi", "2,7,3,0,1,0 none  ", "2,7,3,0,1,0 8 ", "2,7,3,0,true,0 none ",
		"2,7,3,0,0,0 08 hi", "2,7,3,0,0,0 8,09 hi", "2,7,3,0,0,0 +8 hi", "2,7,3,0,0,0 9,8 hi", "2,7,3,0,0,0 8,8 hi", "2,7,3,0,0,0 7 hi", "2,7,3,0,0,0 0 hi", "2,7,3,0,0,0 1001 hi", "2,7,3,0,0,0 -8 hi", "2,7,3,0,0,0 8, hi", "2,7,3,0,0,0 ,8 hi", "2,7,3,0,0,0 8,,9 hi", "2,7,3,0,0,0 None hi", "2,7,3,0,0,0 none,8 hi",
		"2,7,3,0,0,0 8,none hi", "0,7,3,0,0,0 none hi", "-1,7,3,0,0,0 none hi", "1000000001,7,3,0,0,0 none hi", "2,0,3,0,0,0 none hi", "2,1001,3,0,0,0 none hi", "2,7,-1,0,0,0 none hi", "2,7,1000001,0,0,0 none hi", "2,7,3,-1,0,0 none hi", "2,7,3,1000000001,0,0 none hi", "2,7,3,0,0,2 none hi", "2,7,3,0,0,-1 none hi",
		"18446744073709551618,7,3,0,0,0 none hi", "2,7,3,9223372036854775808,0,0 none hi", "2,7,3,0,0,0 none h\x7f", "2,7,3,0,0,0 none h\x1f", "2,7,3,0,0,0 none é", "2,7,3,0,0,0 none " + strings.Repeat("x", impl.MaxText+1), "2,99,3,0,0,0 1,2,3,4,5,6,7,8,9,10,11,12,13,14,15,16,17,18,19,20,21 hi",
		strings.Repeat("2,", 100000) + "2 none hi", "2,7,3,0,0,0 " + strings.Repeat("8,", 100000) + "9 hi", strings.Repeat(" ", 100000), strings.Repeat("2,7,3,0,0,0 none hi\n", 10000),
	}
	// One byte less is another line, or none; what is left of the numbers and likes is none.
	for i := range strings.Index(good, " ") {
		if good[i] == ',' {
			lines = append(lines, good[:i]+good[i+1:], good[:i]+" "+good[i+1:], good[:i]+";"+good[i+1:])
		}
	}
	return lines
}

// Whatever is read as a line is the line of a valid message.
func TestLinesThatAreReadAreWrittenAgain(t *testing.T) {
	rounds := rand.New(rand.NewSource(34))
	messages := slices.Concat(talk().Messages, pets().Messages, endOfDay().Messages)
	read, refused := 0, 0
	for range 20000 {
		line := strings.TrimSuffix(linesOf(messages[rounds.Intn(len(messages))])[0], "\n")
		for range rounds.Intn(3) {
			place := rounds.Intn(len(line) + 1)
			piece := string("0123456789,-+ \n~ax"[rounds.Intn(18)])
			line = line[:place] + piece + line[min(place+rounds.Intn(2), len(line)):]
		}
		m, ok := impl.ReadLine(line)
		if !ok {
			refused++
			isMessage(t, line, m, !ok, impl.Message{})
			continue
		}
		read++
		again, ok := impl.MessageLine(m)
		isValue(t, line, again, ok, line)
		isBool(t, line, impl.ValidMessage(m), true)
	}
	isBool(t, fmt.Sprint("both come often enough: ", read, " and ", refused), min(read, refused) > 3000, true)
}

// Two blocks of the first messages of talk, with their digests written out.
func TestDigestsOfBlocks(t *testing.T) {
	first := fromHex(t, "41a284bbd68f2adcbb6f18107306562e2b46396ba25c8ee4e5ddc63bb8b53f47")
	blocks, ok := impl.ExportLog(impl.Log{Next: 9, Messages: talk().Messages[:3]}, 2)
	isList(t, "two blocks", blocks, ok,
		impl.Block{
			Before: fromHex(t, "ff5390f8c9c87cf85ce7f4641f7761c392aeb5b91e3a5971c73c01bf7d5df5fa"), Digest: first,
			From: 2, Count: 2, Body: "2,7,0,0,0,0 8,9 hello\n3,8,2,0,0,2 none hi @7\n",
		},
		impl.Block{
			Before: first, Digest: fromHex(t, "591a6de8cf9cb8d12d8c2c9057d0486aedfece4d5aad25f6a2cef70b451cd8a7"),
			From: 5, Count: 1, Body: "5,9,2,4,1,3 none \n",
		})
}

func TestExportLog(t *testing.T) {
	for _, l := range []impl.Log{talk(), longLog(), pets(), endOfDay(), {Next: 2, Messages: []impl.Message{said(1, 7, 0, "", 0)}}, {Next: impl.MaxValue, Messages: []impl.Message{said(impl.MaxValue-1, 7, 0, "x", 0)}}} {
		for _, size := range upTo(impl.MaxMessages) {
			blocks, ok := impl.ExportLog(l, size)
			isList(t, fmt.Sprint("blocks of ", size), blocks, ok, sealed(bodiesOf(l, int(size))...)...)
			areSound(t, fmt.Sprint("blocks of ", size), blocks, l)
			// All but the last one have just as many messages.
			left := int64(len(l.Messages))
			for _, b := range blocks {
				isValue(t, "how many messages", b.Count, ok, min(size, left))
				left -= b.Count
			}
			isValue(t, "messages without a block", left, ok, 0)
		}
	}
	for _, l := range []impl.Log{{Next: 1}, {Next: impl.MaxValue}, {Next: 5, Messages: []impl.Message{}}} {
		for _, size := range []int64{1, 7, impl.MaxMessages} {
			blocks, ok := impl.ExportLog(l, size)
			isList(t, "no messages", blocks, ok)
		}
	}
	for _, size := range []int64{0, -1, impl.MaxMessages + 1, impl.MaxValue, math.MinInt64, math.MaxInt64} {
		for _, l := range []impl.Log{talk(), {Next: 1}} {
			blocks, ok := impl.ExportLog(l, size)
			isNoList(t, fmt.Sprint("blocks of ", size), blocks, ok)
		}
	}
	for name, l := range badLogs() {
		for _, size := range []int64{1, impl.MaxMessages} {
			blocks, ok := impl.ExportLog(l, size)
			isNoList(t, name, blocks, ok)
		}
	}
}

// wideLog has 40 messages; the lines of the last count ones, 20 or all, have so many bytes with their newlines.
func wideLog(count, size int) impl.Log {
	l := impl.Log{Next: impl.MaxValue}
	for i := range impl.MaxMessages {
		number := impl.MaxValue - impl.MaxMessages + int64(i)
		m := said(number, 7, 0, "x", 0)
		if i >= impl.MaxMessages-count {
			m = impl.Message{Number: number, Sender: impl.MaxMember, At: impl.MaxTick, Edits: impl.MaxValue, Reply: number - 1, Text: strings.Repeat("y", impl.MaxText)}
		}
		if i >= impl.MaxMessages-count && count == 20 {
			m.Likes = upTo(999)[999-impl.MaxLikes:]
		}
		l.Messages = append(l.Messages, m)
	}
	last := l.Messages[impl.MaxMessages-count:]
	over := len(strings.Join(linesOf(last...), "")) - size
	for i := range last {
		cut := min(over, impl.MaxText)
		last[i].Text = last[i].Text[cut:]
		over -= cut
	}
	return l
}

// A body reaches the greatest length exactly, and fails with one byte more.
func TestTheLongestBodies(t *testing.T) {
	const longest = impl.MaxBytes - 32
	for _, size := range []int{20, 40} {
		good, over := wideLog(size, longest), wideLog(size, longest+1)
		last, more := bodiesOf(good, size)[40/size-1], bodiesOf(over, size)[40/size-1]
		isBool(t, "the lengths are those", len(last) == longest && len(more) == longest+1 && impl.ValidLog(good) && impl.ValidLog(over), true)
		blocks, ok := impl.ExportLog(good, int64(size))
		isList(t, "the longest body", blocks, ok, sealed(bodiesOf(good, size)...)...)
		areSound(t, "the longest body", blocks, good)
		blocks, ok = impl.ExportLog(over, int64(size))
		isNoList(t, "a byte more", blocks, ok)
		blocks, ok = impl.ExportLog(over, int64(size)-1)
		isList(t, "a byte more, but a line less", blocks, ok, sealed(bodiesOf(over, size-1)...)...)
		areSound(t, "a byte more, but a line less", blocks, over)
		// A body that is too long has no digest.
		long := sealed(bodiesOf(over, size)...)
		place := len(long) - 1
		for _, digest := range []string{"", strings.Repeat("\x00", 32), long[place].Before} {
			areBadAt(t, "a byte more", butBlock(long, place, func(b *impl.Block) { b.Digest = digest }), int64(place))
		}
	}
}

func TestBlocksWithAByteChanged(t *testing.T) {
	for _, size := range []int64{1, 3, 8} {
		blocks, _ := impl.ExportLog(talk(), size)
		for i, b := range blocks {
			for place := range len(b.Body) {
				for _, other := range []byte{b.Body[place] ^ 1, b.Body[place] + 1, b.Body[place] ^ 128, 0, '\n', ' ', '1', 255} {
					if other != b.Body[place] {
						areBadAt(t, fmt.Sprint("the byte ", place, " of the body ", i, " is ", other), butBlock(blocks, i, func(b *impl.Block) { b.Body = withByte(b.Body, place, other) }), int64(i))
					}
				}
			}
			for place := range 32 {
				for _, other := range []byte{1, 16, 128, 255} {
					areBadAt(t, "another Before", butBlock(blocks, i, func(b *impl.Block) { b.Before = withByte(b.Before, place, b.Before[place]^other) }), int64(i))
					areBadAt(t, "another Digest", butBlock(blocks, i, func(b *impl.Block) { b.Digest = withByte(b.Digest, place, b.Digest[place]^other) }), int64(i))
				}
			}
		}
	}
}

func TestBlocksWithAnotherField(t *testing.T) {
	blocks, _ := impl.ExportLog(talk(), 3)
	for i, b := range blocks {
		for name, change := range map[string]func(b *impl.Block){
			"From + 1": func(b *impl.Block) { b.From++ }, "From - 1": func(b *impl.Block) { b.From-- }, "From 0": func(b *impl.Block) { b.From = 0 }, "the least From": func(b *impl.Block) { b.From = math.MinInt64 }, "the greatest From": func(b *impl.Block) { b.From = math.MaxInt64 },
			"Count + 1": func(b *impl.Block) { b.Count++ }, "Count - 1": func(b *impl.Block) { b.Count-- }, "Count 0": func(b *impl.Block) { b.Count = 0 }, "Count -1": func(b *impl.Block) { b.Count = -1 }, "the greatest Count": func(b *impl.Block) { b.Count = math.MaxInt64 },
			"no Before": func(b *impl.Block) { b.Before = "" }, "no Digest": func(b *impl.Block) { b.Digest = "" }, "no Body": func(b *impl.Block) { b.Body = "" }, "nothing": func(b *impl.Block) { *b = impl.Block{} },
			"a Before too short": func(b *impl.Block) { b.Before = b.Before[:31] }, "a Digest too short": func(b *impl.Block) { b.Digest = b.Digest[:31] }, "a Before too long": func(b *impl.Block) { b.Before += "\x00" }, "a Digest too long": func(b *impl.Block) { b.Digest += "\x00" },
			"a Before twice": func(b *impl.Block) { b.Before += b.Before }, "a Digest twice": func(b *impl.Block) { b.Digest += b.Digest }, "both exchanged": func(b *impl.Block) { b.Before, b.Digest = b.Digest, b.Before },
			"no last newline": func(b *impl.Block) { b.Body = b.Body[:len(b.Body)-1] }, "a newline more": func(b *impl.Block) { b.Body += "\n" }, "a newline ahead": func(b *impl.Block) { b.Body = "\n" + b.Body }, "a line less": func(b *impl.Block) { b.Body = b.Body[strings.Index(b.Body, "\n")+1:] },
			"a line more": func(b *impl.Block) { b.Body += "20,7,9,0,0,0 none x\n" }, "a body twice": func(b *impl.Block) { b.Body += b.Body }, "a huge body": func(b *impl.Block) { b.Body = strings.Repeat(b.Body, 5000) }, "bytes": func(b *impl.Block) { b.Body = allBytes() },
			"a Before in hexadecimal": func(b *impl.Block) { b.Before, _ = impl.HexText(b.Before) },
		} {
			areBadAt(t, fmt.Sprint(name, " in the block ", i), butBlock(blocks, i, change), int64(i))
		}
		isBool(t, "the block alone is sound", impl.AreBlocks([]impl.Block{b}), i == 0)
	}
}

func TestBlocksThatAreExchanged(t *testing.T) {
	blocks, _ := impl.ExportLog(longLog(), 7)
	for i := range blocks {
		for j := range i {
			areBadAt(t, fmt.Sprint(j, " and ", i, " exchanged"), butBlock(butBlock(blocks, i, func(b *impl.Block) { *b = blocks[j] }), j, func(b *impl.Block) { *b = blocks[i] }), int64(j))
			areBadAt(t, fmt.Sprint(j, " for ", i), butBlock(blocks, i, func(b *impl.Block) { *b = blocks[j] }), int64(i))
			areBadAt(t, fmt.Sprint(i, " for ", j), butBlock(blocks, j, func(b *impl.Block) { *b = blocks[i] }), int64(j))
		}
		less := slices.Delete(slices.Clone(blocks), i, i+1)
		if i == len(blocks)-1 {
			// Nothing tells of blocks that do not follow.
			areSound(t, "the last one left out", less, impl.Log{Next: 36, Messages: longLog().Messages[:35]})
		} else {
			areBadAt(t, fmt.Sprint(i, " left out"), less, int64(i))
		}
		areBadAt(t, fmt.Sprint(i, " twice"), slices.Insert(slices.Clone(blocks), i, blocks[i]), int64(i)+1)
	}
	// The blocks of a log of which one message is another one: the first one is sound by itself.
	others, _ := impl.ExportLog(but(longLog(), func(l *impl.Log) { at(l, 1).Text = "y" }), 7)
	for i := range blocks {
		areBadAt(t, fmt.Sprint("of another log: ", i), butBlock(blocks, i, func(b *impl.Block) { *b = others[i] }), int64(max(i, 1)))
	}
	// The blocks of the same log, but twice as long, and with the messages that are to follow.
	long, _ := impl.ExportLog(longLog(), 14)
	for _, i := range []int{2, 4} {
		areBadAt(t, fmt.Sprint("longer ones behind ", i), slices.Concat(blocks[:i], long[i/2:]), int64(i))
	}
}

// Bodies that are sealed as they should be, but have what no log has.
func TestBlocksOfNoLog(t *testing.T) {
	one, two := linesOf(talk().Messages...)[0], linesOf(talk().Messages...)[1]
	first := "1,7,0,0,0,0 none x\n"
	for name, body := range map[string]string{
		"no lines": "", "a newline": "\n", "a text": "hello\n", "no newline": one[:len(one)-1], "no last newline": one + two[:len(two)-1], "an empty line between": one + "\n" + two, "an empty line behind": one + "\n", "an empty line ahead": "\n" + one,
		"other newlines": one[:len(one)-1] + "\r\n", "a blank behind": one + " ", "a byte behind": one + "x", "a number behind": one + "3", "a line twice": one + one, "another order": two + one,
	} {
		areBadAt(t, name, sealed(body), 0)
		areBadAt(t, name+", first", sealed(body, linesOf(talk().Messages...)[2]), 0)
		areBadAt(t, name+", last", sealed(first, body), 1)
		areBadAt(t, name+", between", sealed(first, body, linesOf(talk().Messages...)[2]), 1)
	}
	for _, line := range notLines() {
		if strings.Contains(line, "\n") || len(line) > 1000 {
			continue
		}
		areBadAt(t, line, sealed(line+"\n"), 0)
		areBadAt(t, line+", in the second block", sealed(first, line+"\n"), 1)
		areBadAt(t, line+", in the second line", sealed(first+line+"\n"), 0)
	}
	line := func(number, at int64) string { return linesOf(said(number, 7, at, "x", 0))[0] }
	for name, c := range map[string]struct {
		bodies []string
		bad    int64
	}{
		"numbers as great": {[]string{line(1, 0), line(2, 0), line(2, 0)}, 2}, "numbers fall": {[]string{line(1, 0), line(9, 0), line(8, 0), line(10, 0)}, 2}, "numbers fall in a body": {[]string{line(1, 0), line(9, 0) + line(8, 0)}, 1}, "numbers as great in a body": {[]string{line(1, 0) + line(9, 0) + line(9, 0)}, 0},
		"At falls": {[]string{line(1, 5), line(2, 4)}, 1}, "At falls in a body": {[]string{line(1, 5), line(2, 6) + line(3, 5)}, 1}, "At falls in the first body": {[]string{line(1, 5) + line(2, 4), line(3, 9)}, 0}, "At falls far": {[]string{line(1, 5), line(2, 9), line(3, 8)}, 2},
		"a number without a Next": {[]string{line(1, 0), line(impl.MaxValue, 0)}, 1}, "one body without a Next": {[]string{line(impl.MaxValue, 0)}, 0}, "two in a body, without a Next": {[]string{line(1, 0) + line(impl.MaxValue, 0)}, 0},
	} {
		areBadAt(t, name, sealed(c.bodies...), c.bad)
	}
	areSound(t, "the greatest Next", sealed(line(1, 0), line(impl.MaxValue-1, 0)), impl.Log{Next: impl.MaxValue, Messages: []impl.Message{said(1, 7, 0, "x", 0), said(impl.MaxValue-1, 7, 0, "x", 0)}})
	areSound(t, "bodies of other sizes", sealed(line(1, 0), line(2, 0)+line(3, 0)+line(5, 9), line(8, 9)+line(9, 9)), impl.Log{Next: 12, Messages: []impl.Message{said(1, 7, 0, "x", 0), said(2, 7, 0, "x", 0), said(3, 7, 0, "x", 0), said(5, 7, 9, "x", 0), said(8, 7, 9, "x", 0), said(9, 7, 9, "x", 0)}})
}

// A log has just so many messages, and a list so many blocks.
func TestBlocksUpToTheLimit(t *testing.T) {
	lines := linesOf(longLog().Messages...)
	more := linesOf(said(41, 7, 5, "x", 0))[0]
	areSound(t, "40 blocks", sealed(lines...), longLog())
	areSound(t, "40 messages in 39 blocks", sealed(append(slices.Clone(lines[:38]), lines[38]+lines[39])...), longLog())
	areBadAt(t, "41 messages in 40 blocks", sealed(append(slices.Clone(lines[:39]), lines[39]+more)...), 39)
	areBadAt(t, "41 messages in one block", sealed(strings.Join(lines, "")+more), 0)
	areBadAt(t, "41 messages in two blocks", sealed(strings.Join(lines, ""), more), 1)
	areBadAt(t, "41 messages in many blocks", sealed(strings.Join(lines[:20], ""), lines[20], strings.Join(lines[21:], "")+more), 2)
	forty := sealed(lines...)
	areBadAt(t, "the last one of 40 blocks", butBlock(forty, 39, func(b *impl.Block) { b.Count = 2 }), 39)
	for name, blocks := range map[string][]impl.Block{
		"41 blocks": sealed(append(slices.Clone(lines), more)...), "41 blocks, the first one of which is bad": append([]impl.Block{{}}, forty...), "41 empty blocks": make([]impl.Block, 41), "20000 empty blocks": make([]impl.Block, 20000), "one block 41 times": slices.Repeat(forty[:1], 41),
	} {
		bad, ok := impl.FirstBad(blocks)
		isNothing(t, name+": FirstBad", bad, ok)
		isBool(t, name+": AreBlocks", impl.AreBlocks(blocks), false)
		for _, next := range []int64{42, impl.MaxValue} {
			l, ok := impl.ImportBlocks(blocks, next)
			isNoLog(t, name+": ImportBlocks", l, ok)
		}
	}
	areBadAt(t, "40 empty blocks", make([]impl.Block, 40), 0)
}

func TestImportBlocks(t *testing.T) {
	blocks, _ := impl.ExportLog(talk(), 3)
	for _, next := range []int64{14, 15, 20, 21, impl.MaxValue - 1, impl.MaxValue} {
		l, ok := impl.ImportBlocks(blocks, next)
		isLog(t, fmt.Sprint("Next ", next), l, ok, but(talk(), func(l *impl.Log) { l.Next = next }))
	}
	for _, next := range []int64{13, 12, 2, 1, 0, -1, impl.MaxValue + 1, math.MinInt64, math.MaxInt64} {
		l, ok := impl.ImportBlocks(blocks, next)
		isNoLog(t, fmt.Sprint("Next ", next), l, ok)
	}
	for _, none := range [][]impl.Block{nil, {}} {
		for _, next := range []int64{1, 20, impl.MaxValue} {
			areSound(t, "no blocks", none, impl.Log{Next: next})
		}
		for _, next := range []int64{0, -1, impl.MaxValue + 1, math.MinInt64, math.MaxInt64} {
			l, ok := impl.ImportBlocks(none, next)
			isNoLog(t, fmt.Sprint("no blocks and Next ", next), l, ok)
		}
	}
	// Blocks up to any of them are the log up to there.
	for i := range blocks {
		areSound(t, fmt.Sprint(i, " blocks"), blocks[:i], impl.Log{Next: 20, Messages: talk().Messages[:3*i]})
	}
}

// dueOf and leftOf tell without the program what fires between two ticks, one tick after another.
func dueOf(list []impl.Reminder, from, now int64) [][]int64 {
	fired, _ := runReminders(list, from, now)
	return fired
}

func leftOf(list []impl.Reminder, from, now int64) []impl.Reminder {
	_, left := runReminders(list, from, now)
	return left
}

func runReminders(list []impl.Reminder, from, now int64) ([][]int64, []impl.Reminder) {
	list = slices.Clone(list)
	var fired [][]int64
	for tick := from; tick <= now; tick++ {
		var together [][]int64
		for i, r := range list {
			if r.At == tick && r.Left > 0 {
				together = append(together, []int64{tick, r.Member, r.Number})
				list[i].At, list[i].Left = r.At+r.Every, r.Left-1
			}
		}
		slices.SortFunc(together, func(a, b []int64) int { return cmp.Or(cmp.Compare(a[1], b[1]), cmp.Compare(a[2], b[2])) })
		fired = append(fired, together...)
	}
	return fired, slices.DeleteFunc(list, func(r impl.Reminder) bool { return r.Left == 0 || r.At > impl.MaxTick })
}

// someReminders are up to 30 that fire from a tick on.
func someReminders(rounds *rand.Rand, from int64) []impl.Reminder {
	list := make([]impl.Reminder, rounds.Intn(8)*rounds.Intn(5))
	for i := range list {
		list[i] = reminder(1+rounds.Int63n(3), 1+rounds.Int63n(3), from+rounds.Int63n(40), 1+rounds.Int63n(12), 1+rounds.Int63n(impl.MaxFirings))
		if rounds.Intn(4) == 0 {
			list[i].Every, list[i].Left = rounds.Int63n(3), 1
		}
	}
	return list
}

// Reminders fire as they do when each tick is waited for, however far one goes at once.
func TestRemindersFireTickByTick(t *testing.T) {
	rounds := rand.New(rand.NewSource(35))
	firings, over := 0, 0
	for range 2000 {
		from := []int64{0, 1000, impl.MaxTick - 60}[rounds.Intn(3)]
		list := someReminders(rounds, from)
		now := from + rounds.Int63n(61)
		fired, left := runReminders(list, from, now)
		isDue(t, fmt.Sprint(list), list, now, fired, left...)
		firings += len(fired)
		early := from + rounds.Int63n(now-from+1)
		isDue(t, fmt.Sprint("on from ", early, " with ", left), leftOf(list, from, early), now, dueOf(list, from, now)[len(dueOf(list, from, early)):], left...)
		if len(left) < len(list) {
			over++
		}
		next, ok := impl.NextReminder(left)
		if len(left) == 0 {
			isNothing(t, "no reminders are left", next, ok)
			continue
		}
		isBool(t, "the next one is to come", ok && next > now, true)
		isBool(t, "nothing fires before it", len(dueOf(left, now, next-1)) == 0 && len(dueOf(left, now, next)) > 0, true)
	}
	isBool(t, fmt.Sprint(firings, " firings, and ", over, " times some are gone"), firings > 20000 && over > 500, true)
}

// someLog is a log of up to 12 messages with all that a message can have, and gaps.
func someLog(rounds *rand.Rand) impl.Log {
	l := someTalk(rounds)
	for i := range l.Messages {
		m := &l.Messages[i]
		m.At, m.Sender, m.Edits, m.Reply = m.At/50, 100+rounds.Int63n(9), rounds.Int63n(3), rounds.Int63n(m.Number)
		if !m.Gone {
			m.Text += []string{"", " ", "x", "none"}[rounds.Intn(4)]
		}
	}
	return l
}

// Promise 10: sweeps take just what is old.
func TestSweepsTakeJustWhatIsOld(t *testing.T) {
	rounds := rand.New(rand.NewSource(36))
	taken, stayed := 0, 0
	for range 5000 {
		l := someLog(rounds)
		now, age, keep := rounds.Int63n(40), rounds.Int63n(10), rounds.Int63n(6)*rounds.Int63n(4)
		var pins []int64
		for n := int64(1); n < l.Next; n++ {
			if rounds.Intn(6) == 0 {
				pins = append(pins, n)
			}
		}
		var old []int64
		for i, m := range l.Messages {
			isLast := i >= len(l.Messages)-int(keep)
			if m.At+age < now && !isLast && !slices.Contains(pins, m.Number) {
				old = append(old, m.Number)
			}
		}
		what := fmt.Sprint(logText(l), " at ", now, " with ", age, keep, pins)
		swept, ok := impl.SweepLog(l, now, age, keep, pins)
		isLog(t, what, swept, ok, thinned(l, old...))
		again, ok := impl.SweepLog(swept, now, age, keep, pins)
		isLog(t, what+", a second time", again, ok, swept)
		later, ok := impl.SweepLog(l, now+3, age+3, keep, pins)
		isLog(t, what+", later with a greater age", later, ok, swept)
		taken, stayed = taken+len(old), stayed+len(swept.Messages)
		isHoled(t, swept)
	}
	isBool(t, fmt.Sprint(taken, " are taken, and ", stayed, " stay"), min(taken, stayed) > 5000, true)
}

// isHoled fails the test unless the numbers of a log and its holes are all from that of the first message on.
func isHoled(t *testing.T, l impl.Log) {
	t.Helper()
	holes, ok := impl.HolesOf(l)
	var all []int64
	for _, m := range l.Messages {
		all = append(all, m.Number)
	}
	if len(all) == 0 {
		isList(t, "holes of nothing", holes, ok)
		return
	}
	var want []int64
	for n := all[0]; n < l.Next; n++ {
		if !slices.Contains(all, n) {
			want = append(want, n)
		}
	}
	isList(t, "holes of "+logText(l), holes, ok, want...)
	last := l.Messages[len(l.Messages)-1].At
	ages, ok := impl.AgesOf(l, last+3)
	for i, m := range l.Messages {
		isBool(t, "an age", ok && ages[i]+m.At == last+3, true)
	}
}

// Promise 10: blocks that are changed are found, at the first one that is.
func TestBlocksThatAreChangedAreFound(t *testing.T) {
	rounds := rand.New(rand.NewSource(37))
	found := map[int]int{}
	for range 3000 {
		l := someLog(rounds)
		size := 1 + rounds.Intn(4)
		blocks, ok := impl.ExportLog(l, int64(size))
		isList(t, fmt.Sprint("blocks of ", size, " of ", logText(l)), blocks, ok, sealed(bodiesOf(l, size)...)...)
		areSound(t, logText(l), blocks, l)
		if len(blocks) == 0 {
			continue
		}
		i, j := rounds.Intn(len(blocks)), rounds.Intn(len(blocks))
		kind := rounds.Intn(7)
		changed, bad := slices.Clone(blocks), i
		b := &changed[i]
		flip := func(s string) string {
			place := rounds.Intn(len(s))
			return withByte(s, place, s[place]+1+byte(rounds.Intn(255)))
		}
		switch kind {
		case 0:
			b.Body = flip(b.Body)
		case 1:
			b.Before = flip(b.Before)
		case 2:
			b.Digest = flip(b.Digest)
		case 3:
			b.From += 1 + rounds.Int63n(9)
		case 4:
			b.Count -= 1 + rounds.Int63n(9)
		case 5:
			changed[i], changed[j] = blocks[j], blocks[i]
			bad = min(i, j)
		case 6:
			// One that is sealed again is found by the next one.
			again := but(l, func(l *impl.Log) { l.Messages[i*size].Edits += 7 })
			*b = sealed(bodiesOf(again, size)...)[i]
			bad = i + 1
		}
		if slices.Equal(changed, blocks) || bad == len(blocks) {
			continue
		}
		found[kind]++
		areBadAt(t, fmt.Sprint("the change ", kind, " of the block ", i), changed, int64(bad))
	}
	for kind := range 7 {
		isBool(t, fmt.Sprint("each change is found: ", found), found[kind] > 100, true)
	}
}
