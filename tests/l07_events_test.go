package tests

import (
	"fmt"
	"math"
	"math/rand"
	"slices"
	"strings"
	"testing"

	"loop.example/g01202/impl"
)

func posted(number, member, at int64, text string, reply int64) impl.Event {
	return impl.Event{Kind: impl.EventPost, Number: number, Member: member, At: at, Text: text, Reply: reply}
}

func edited(number, member int64, text string) impl.Event {
	return impl.Event{Kind: impl.EventEdit, Number: number, Member: member, Text: text}
}

func takenBack(number, member int64) impl.Event {
	return impl.Event{Kind: impl.EventTakeBack, Number: number, Member: member}
}

func liked(number, member int64) impl.Event {
	return impl.Event{Kind: impl.EventLike, Number: number, Member: member}
}

func unliked(number, member int64) impl.Event {
	return impl.Event{Kind: impl.EventUnlike, Number: number, Member: member}
}

// day is what happens to talk: likes of 20 by 8 three times and of 2 by 9 twice, and 9 and 21 are taken back behind their likes.
func day() impl.History {
	return impl.History{Base: talk(), Events: []impl.Event{
		posted(20, 7, 9, "new", 3), liked(20, 8), edited(20, 7, "newer"), liked(3, 7), unliked(20, 8), posted(21, 8, 10, "", 20), liked(9, 1), liked(20, 8),
		takenBack(9, 9), unliked(2, 9), liked(21, 7), liked(2, 9), unliked(6, 1), takenBack(21, 8), posted(22, impl.MaxMember, 10, "  @7 ", 0), liked(22, 1),
	}}
}

// endOfDay is talk behind the events of day.
func endOfDay() impl.Log {
	return but(talk(), func(l *impl.Log) {
		*at(l, 9) = gone(9, 9, 4, 0, 4)
		at(l, 3).Likes, at(l, 6).Likes = []int64{7}, nil
		l.Messages, l.Next = append(l.Messages, said(20, 7, 9, "newer", 3), gone(21, 8, 10, 0, 20), said(22, impl.MaxMember, 10, "  @7 ", 0)), 23
		at(l, 20).Likes, at(l, 20).Edits, at(l, 22).Likes = []int64{8}, 1, []int64{1}
	})
}

// blinks returns n events that a log with the message 3 of talk takes: 7 likes it, and does so no more, in turns.
func blinks(n int) []impl.Event {
	events := make([]impl.Event, n)
	for i := range events {
		events[i] = liked(3, 7)
		if i%2 > 0 {
			events[i] = unliked(3, 7)
		}
	}
	return events
}

func copyOfHistory(h impl.History) impl.History {
	return impl.History{Base: copyOfLog(h.Base), Events: slices.Clone(h.Events)}
}

// butHistory returns day, changed in one way.
func butHistory(change func(h *impl.History)) impl.History {
	h := copyOfHistory(day())
	change(&h)
	return h
}

// historyText and syncText write out; an empty list and nil are the same.
func historyText(h impl.History) string { return fmt.Sprintf("%+q", fmt.Sprintf("%+v", h)) }

func syncText(s impl.Sync) string { return fmt.Sprintf("%+q", fmt.Sprintf("%+v", s)) }

func isHistory(t *testing.T, what string, got impl.History, ok bool, want impl.History) {
	t.Helper()
	if !ok || historyText(got) != historyText(want) {
		t.Errorf("%s: got %v %v, want %v true", what, historyText(got), ok, historyText(want))
	}
}

func isNoHistory(t *testing.T, what string, got impl.History, ok bool) {
	t.Helper()
	isHistory(t, what, got, !ok, impl.History{})
}

func isSync(t *testing.T, what string, got impl.Sync, ok bool, want impl.Sync) {
	t.Helper()
	if !ok || syncText(got) != syncText(want) {
		t.Errorf("%s: got %v %v, want %v true", what, syncText(got), ok, syncText(want))
	}
}

func isNoSync(t *testing.T, what string, got impl.Sync, ok bool) {
	t.Helper()
	isSync(t, what, got, !ok, impl.Sync{})
}

// goodEvents are valid, and each field has its least and its greatest value.
func goodEvents() []impl.Event {
	longest := strings.Repeat("~", impl.MaxText)
	events := []impl.Event{
		posted(1, 1, 0, "", 0), posted(1, 7, 5, "hi", 0), posted(2, 7, 5, "hi", 1), posted(20, 7, 9, " a  b ", 3), posted(9, 7, 9, " ", 0), posted(impl.MaxValue, impl.MaxMember, impl.MaxTick, longest, impl.MaxValue-1),
		edited(1, 1, ""), edited(2, 7, "hi"), edited(2, 7, "  two words "), edited(impl.MaxValue, impl.MaxMember, longest),
	}
	for _, one := range []func(number, member int64) impl.Event{takenBack, liked, unliked} {
		events = append(events, one(1, 1), one(3, 7), one(1, impl.MaxMember), one(impl.MaxValue, 1), one(impl.MaxValue, impl.MaxMember))
	}
	return events
}

// badEvents are not valid, each in one way; all else could be done to talk.
func badEvents() map[string]impl.Event {
	bad := map[string]impl.Event{"the empty event": {}}
	good := []impl.Event{posted(20, 7, 9, "x", 3), edited(2, 7, "x"), takenBack(2, 7), liked(3, 7), unliked(2, 9)}
	with := func(name string, e impl.Event, change func(e *impl.Event)) {
		change(&e)
		bad[fmt.Sprint(name, " in the kind ", e.Kind)] = e
	}
	for _, e := range good {
		for _, n := range []int64{0, -1, -2, impl.MaxValue + 1, math.MinInt64, math.MaxInt64} {
			with(fmt.Sprint("Number ", n), e, func(e *impl.Event) { e.Number, e.Reply = n, 0 })
		}
		for _, n := range notMembers() {
			with(fmt.Sprint("Member ", n), e, func(e *impl.Event) { e.Member = n })
		}
		for _, text := range notTexts() {
			with(fmt.Sprintf("Text %q", text), e, func(e *impl.Event) { e.Text = text })
		}
		for _, n := range notTicks() {
			with(fmt.Sprint("At ", n), e, func(e *impl.Event) { e.At = n })
		}
		for _, n := range []int64{-1, e.Number, e.Number + 1, impl.MaxValue, math.MinInt64, math.MaxInt64} {
			with(fmt.Sprint("Reply ", n), e, func(e *impl.Event) { e.Reply = n })
		}
		if e.Kind != impl.EventPost {
			with("At 1", e, func(e *impl.Event) { e.At = 1 })
			with("At 9", e, func(e *impl.Event) { e.At = 9 })
			with("Reply 1", e, func(e *impl.Event) { e.Reply = 1 })
		}
		if e.Kind > impl.EventEdit {
			with("a text", e, func(e *impl.Event) { e.Text = "x" })
			with("a blank", e, func(e *impl.Event) { e.Text = " " })
		}
		for _, n := range []int64{-1, 5, 6, math.MinInt64, math.MaxInt64} {
			with(fmt.Sprint("it was ", e.Kind), e, func(e *impl.Event) { e.Kind = n })
		}
	}
	return bad
}

// notEvents are lists that functions with events do not take; all but the long ones would run without the bad one.
func notEvents() map[string][]impl.Event {
	bad := map[string][]impl.Event{"61 events": blinks(impl.MaxEvents + 1), "20000 events": blinks(20000), "20000 empty events": make([]impl.Event, 20000)}
	for name, e := range badEvents() {
		bad[name+", alone"] = []impl.Event{e}
		bad[name+", first"] = []impl.Event{e, liked(10, 7)}
		bad[name+", last"] = []impl.Event{liked(10, 7), e}
	}
	return bad
}

// badHistories are not valid, each in one way.
func badHistories() map[string]impl.History {
	bad := map[string]impl.History{"the empty history": {}, "events of nothing": {Events: day().Events}}
	for name, l := range badLogs() {
		bad[name] = impl.History{Base: l}
		bad[name+" and an event"] = impl.History{Base: l, Events: []impl.Event{liked(3, 50)}}
	}
	for name, events := range notEvents() {
		bad[name] = impl.History{Base: talk(), Events: events}
	}
	for name, e := range badEvents() {
		bad[name+", behind the others"] = butHistory(func(h *impl.History) { h.Events = append(h.Events, e) })
	}
	for i, e := range failing() {
		for _, place := range []int{0, 8, 16} {
			bad[fmt.Sprint("the event ", i, " that fails, at ", place)] = butHistory(func(h *impl.History) { h.Events = slices.Insert(h.Events, place, e) })
		}
	}
	bad["without the first event"] = butHistory(func(h *impl.History) { h.Events = h.Events[1:] })
	bad["another order"] = butHistory(func(h *impl.History) { slices.Reverse(h.Events) })
	bad["a later base"] = butHistory(func(h *impl.History) { h.Base.Next = 21 })
	return bad
}

// failing are valid events that fail before, amid and behind those of day.
func failing() []impl.Event {
	return []impl.Event{
		posted(19, 7, 10, "x", 0), posted(24, 7, 10, "x", 0), posted(1, 7, 10, "x", 0), posted(impl.MaxValue, 7, 10, "x", 0), edited(2, 8, "x"), edited(4, 7, "x"), edited(5, 9, "x"), edited(3, 8, "hi @7"), edited(99, 7, "x"),
		takenBack(2, 8), takenBack(5, 9), takenBack(99, 9), liked(2, 7), liked(2, 8), liked(12, 1), liked(99, 1), unliked(10, 1), unliked(12, 1), unliked(99, 1), unliked(13, 6),
	}
}

// The examples of chapter 7, and what this chapter's texts look like.
func TestExamplesOfEvents(t *testing.T) {
	few, ok := impl.CompactEvents([]impl.Event{liked(1, 2), unliked(1, 2), liked(1, 2)})
	isList(t, "like, unlike and like", few, ok, liked(1, 2))
	for _, e := range []impl.Event{posted(1, 7, 0, "hi", 0), edited(1, 7, "hi")} {
		cost, ok := impl.EventCost(e)
		isValue(t, "an event with the text hi", cost, ok, 14)
	}
	text, ok := impl.EventText(posted(2, 7, 9, "hi @8", 1))
	isValue(t, "the text of an event", text, ok, "0,2,7,9,1 hi @8")
}

func TestConstantsOfEvents(t *testing.T) {
	isValue(t, "the limit", impl.MaxEvents, true, 60)
	isList(t, "kinds of events", []int64{impl.EventPost, impl.EventEdit, impl.EventTakeBack, impl.EventLike, impl.EventUnlike}, true, 0, 1, 2, 3, 4)
	isList(t, "kinds of syncs", []int64{impl.SyncNone, impl.SyncEvents, impl.SyncWhole}, true, 0, 1, 2)
}

func TestValidEvent(t *testing.T) {
	for _, e := range slices.Concat(goodEvents(), day().Events, failing()) {
		isBool(t, fmt.Sprintf("%+v", e), impl.ValidEvent(e), true)
	}
	for name, e := range badEvents() {
		isBool(t, name, impl.ValidEvent(e), false)
	}
}

// isApplied fails the test unless ApplyEvent does what another function has done.
func isApplied(t *testing.T, l impl.Log, e impl.Event, want impl.Log, able bool) {
	t.Helper()
	after, ok := impl.ApplyEvent(l, e)
	if able {
		isLog(t, fmt.Sprintf("%+v", e), after, ok, want)
	} else {
		isNoLog(t, fmt.Sprintf("%+v", e), after, ok)
	}
}

// What chapter 3 does is done, for all messages of talk and for numbers of none, by members who may and who may not.
func TestApplyEvent(t *testing.T) {
	done := 0
	for number := range int64(24) {
		for _, member := range []int64{1, 7, 8, 9, 999, impl.MaxMember} {
			for _, text := range []string{"", "x", "hello"} {
				after, ok := impl.EditMessage(talk(), number, member, text)
				isApplied(t, talk(), edited(number, member, text), after, ok)
			}
			for _, reply := range []int64{0, 2, 5, 13, 14, 19} {
				after, _, ok := impl.PostMessage(talk(), member, 9, "x", reply)
				isApplied(t, talk(), posted(number, member, 9, "x", reply), after, ok && number == 20)
			}
			for _, c := range []struct {
				e   impl.Event
				run func(l impl.Log, number, member int64) (impl.Log, bool)
			}{{takenBack(number, member), impl.TakeBack}, {liked(number, member), impl.LikeMessage}, {unliked(number, member), impl.UnlikeMessage}} {
				after, ok := c.run(talk(), number, member)
				isApplied(t, talk(), c.e, after, ok)
				if ok {
					done++
				}
			}
		}
	}
	isBool(t, fmt.Sprint(done, " are done"), done > 20, true)
	for name, e := range badEvents() {
		l, ok := impl.ApplyEvent(talk(), e)
		isNoLog(t, name, l, ok)
	}
	for name, l := range badLogs() {
		for _, e := range []impl.Event{posted(max(l.Next, 1), 7, 9, "x", 0), edited(2, 7, "x"), takenBack(2, 7), liked(3, 50), unliked(2, 8)} {
			l, ok := impl.ApplyEvent(l, e)
			isNoLog(t, name, l, ok)
		}
	}
}

// The number of a new message is just the next one of the log.
func TestPostsInOrder(t *testing.T) {
	for _, c := range []struct {
		l      impl.Log
		number int64
		able   bool
	}{
		{impl.Log{Next: 1}, 1, true}, {impl.Log{Next: 1}, 2, false}, {impl.Log{Next: 2}, 1, false}, {talk(), 20, true}, {talk(), 19, false}, {talk(), 21, false}, {talk(), 14, false}, {talk(), 13, false},
		{impl.Log{Next: impl.MaxValue - 1}, impl.MaxValue - 1, true}, {impl.Log{Next: impl.MaxValue - 1}, impl.MaxValue, false}, {impl.Log{Next: impl.MaxValue}, impl.MaxValue, false},
		{longLog(), 41, false}, {but(longLog(), func(l *impl.Log) { l.Messages = l.Messages[1:] }), 41, true}, {but(longLog(), func(l *impl.Log) { l.Messages = l.Messages[1:] }), 40, false},
	} {
		want := impl.Log{Next: c.number + 1, Messages: append(slices.Clone(c.l.Messages), said(c.number, 7, 9, "x", 0))}
		isApplied(t, c.l, posted(c.number, 7, 9, "x", 0), want, c.able)
	}
	// What PostMessage refuses for other reasons.
	for _, e := range []impl.Event{posted(20, 7, 8, "x", 0), posted(20, 7, 9, "x", 5), posted(20, 7, 9, "x", 12), posted(20, 7, 9, "x", 4), posted(20, 7, 9, "x", 19)} {
		isApplied(t, talk(), e, impl.Log{}, false)
	}
}

func TestRunEvents(t *testing.T) {
	l, ok := impl.RunEvents(talk(), day().Events)
	isLog(t, "a day", l, ok, endOfDay())
	for _, none := range [][]impl.Event{nil, {}} {
		for _, l := range []impl.Log{talk(), longLog(), {Next: 1}, {Next: impl.MaxValue}} {
			same, ok := impl.RunEvents(l, none)
			isLog(t, "no events", same, ok, l)
		}
		for name, l := range badLogs() {
			l, ok := impl.RunEvents(l, none)
			isNoLog(t, name, l, ok)
		}
	}
	// One event after another is all of them.
	step := talk()
	for i, e := range day().Events {
		step, ok = impl.ApplyEvent(step, e)
		all, alsoOk := impl.RunEvents(talk(), day().Events[:i+1])
		isLog(t, fmt.Sprint("up to ", i), all, ok && alsoOk, step)
	}
	l, ok = impl.RunEvents(talk(), blinks(impl.MaxEvents))
	isLog(t, "60 events", l, ok, talk())
	l, ok = impl.RunEvents(talk(), blinks(impl.MaxEvents-1))
	isLog(t, "59 events", l, ok, but(talk(), func(l *impl.Log) { at(l, 3).Likes = []int64{7} }))
	for name, events := range notEvents() {
		l, ok := impl.RunEvents(talk(), events)
		isNoLog(t, name, l, ok)
	}
	for name, h := range badHistories() {
		l, ok := impl.RunEvents(h.Base, h.Events)
		isNoLog(t, name, l, ok)
	}
}

func TestCompactEvents(t *testing.T) {
	a, b, other := []impl.Event{liked(3, 7), unliked(3, 7)}, []impl.Event{liked(3, 9), unliked(3, 9)}, []impl.Event{liked(2, 7), unliked(2, 7)}
	post, edit, back := posted(20, 7, 9, "x", 0), edited(3, 8, "y"), takenBack(3, 8)
	for name, c := range map[string]struct{ events, want []impl.Event }{
		"no events": {nil, nil}, "an empty list": {[]impl.Event{}, nil}, "one like": {a[:1], a[:1]}, "one unlike": {a[1:], a[1:]},
		"two": {a, nil}, "the other two": {[]impl.Event{a[1], a[0]}, nil}, "three": {[]impl.Event{a[0], a[1], a[0]}, a[:1]}, "the other three": {[]impl.Event{a[1], a[0], a[1]}, a[1:]},
		"60": {blinks(60), nil}, "59": {blinks(59), a[:1]},
		// They need not be in turns: how many they are decides.
		"the same twice": {[]impl.Event{a[0], a[0]}, nil}, "the last one of three": {[]impl.Event{a[0], a[0], a[1]}, a[1:]}, "five": {[]impl.Event{a[1], a[1], a[0], a[0], a[0]}, a[:1]},
		// What stands between them stays, and the last one stays at its place.
		"with others between": {[]impl.Event{post, a[0], edit, a[1], post}, []impl.Event{post, edit, post}}, "the last one stays": {[]impl.Event{a[0], post, a[1], edit, a[0], post}, []impl.Event{post, edit, a[0], post}},
		"likes of other members": {[]impl.Event{a[0], b[0], a[1], a[0]}, []impl.Event{b[0], a[0]}}, "of both": {[]impl.Event{a[0], b[0], a[1], b[1]}, nil}, "of both, once": {[]impl.Event{b[0], a[0]}, []impl.Event{b[0], a[0]}},
		"likes of other messages": {[]impl.Event{a[0], other[0], a[1], other[1], other[0]}, other[:1]},
		// Likes go before the message that has them is taken back.
		"taken back": {[]impl.Event{a[0], back}, []impl.Event{back}}, "three taken back": {[]impl.Event{a[0], edit, a[1], b[0], a[0], back}, []impl.Event{edit, back}}, "another one taken back": {[]impl.Event{other[0], a[0], back}, []impl.Event{other[0], back}},
		"taken back by another": {[]impl.Event{a[0], takenBack(3, 99), post}, []impl.Event{takenBack(3, 99), post}}, "taken back and an unlike": {[]impl.Event{unliked(3, 1), back, post}, []impl.Event{back, post}},
		// Those behind count by themselves.
		"taken back before": {[]impl.Event{back, a[0]}, []impl.Event{back, a[0]}}, "two behind": {[]impl.Event{back, a[0], a[1]}, []impl.Event{back}}, "one before and one behind": {[]impl.Event{a[0], back, a[1]}, []impl.Event{back, a[1]}},
		"two before and one behind": {[]impl.Event{a[0], a[1], back, a[0]}, []impl.Event{back, a[0]}}, "three behind": {[]impl.Event{a[0], back, a[1], b[0], a[0], a[1]}, []impl.Event{back, b[0], a[1]}},
		"taken back twice": {[]impl.Event{a[0], back, a[1], back, a[0]}, []impl.Event{back, back, a[0]}},
		// Nothing else is left out, even if it is there twice.
		"posts and edits": {[]impl.Event{post, post, edit, edit, back, back, edit, post}, []impl.Event{post, post, edit, edit, back, back, edit, post}},
		"a day":           {day().Events, []impl.Event{day().Events[0], day().Events[2], liked(3, 7), day().Events[5], liked(20, 8), takenBack(9, 9), unliked(6, 1), takenBack(21, 8), day().Events[14], liked(22, 1)}},
	} {
		few, ok := impl.CompactEvents(c.events)
		isList(t, name, few, ok, c.want...)
		again, ok := impl.CompactEvents(few)
		isList(t, name+", again", again, ok, c.want...)
	}
	for name, events := range notEvents() {
		few, ok := impl.CompactEvents(events)
		isNoList(t, name, few, ok)
	}
}

// Likes that are left out may have made way for others: this is why the promise names MaxLikes.
func TestCompactedLikesBeyondTheLimit(t *testing.T) {
	full := but(talk(), func(l *impl.Log) { at(l, 13).Likes = upTo(impl.MaxLikes) })
	events := []impl.Event{unliked(13, 1), liked(13, 21), unliked(13, 2), liked(13, 1)}
	few, ok := impl.CompactEvents(events)
	isList(t, "what is left", few, ok, liked(13, 21), unliked(13, 2))
	l, ok := impl.RunEvents(full, events)
	isLog(t, "all of them", l, ok, but(full, func(l *impl.Log) { at(l, 13).Likes = append([]int64{1}, upTo(21)[2:]...) }))
	l, ok = impl.RunEvents(full, few)
	isNoLog(t, "the like 21", l, ok)
	l, ok = impl.RunEvents(full, []impl.Event{few[1], few[0]})
	isBool(t, "the like 20", ok, true)
}

func TestCosts(t *testing.T) {
	for _, e := range slices.Concat(goodEvents(), day().Events) {
		cost, ok := impl.EventCost(e)
		isValue(t, fmt.Sprintf("%+v", e), cost, ok, 12+int64(len(e.Text)))
	}
	for name, e := range badEvents() {
		cost, ok := impl.EventCost(e)
		isNothing(t, name, cost, ok)
	}
	loud := but(longLog(), func(l *impl.Log) {
		for i := range l.Messages {
			l.Messages[i].Sender, l.Messages[i].Text, l.Messages[i].Likes = 21, strings.Repeat("y", impl.MaxText), upTo(impl.MaxLikes)
		}
	})
	for _, c := range []struct {
		l    impl.Log
		want int64
	}{
		{impl.Log{Next: 1}, 10}, {impl.Log{Next: impl.MaxValue}, 10}, {longLog(), 10 + 40*25}, {talk(), 10 + 8*24 + 5 + 5 + 12 + 2 + 4 + 5 + 2*7}, {loud, 10 + 40*(24+80+40)},
		{impl.Log{Next: 2, Messages: []impl.Message{said(1, 7, 5, "", 0)}}, 34}, {impl.Log{Next: 2, Messages: []impl.Message{gone(1, 7, 5, 9, 0)}}, 34}, {impl.Log{Next: 2, Messages: []impl.Message{said(1, 7, 5, "x", 0)}}, 35},
		{but(talk(), func(l *impl.Log) { l.Messages = l.Messages[:1] }), 10 + 24 + 5 + 4},
	} {
		cost, ok := impl.LogCost(c.l)
		isValue(t, logText(c.l), cost, ok, c.want)
	}
	for name, l := range badLogs() {
		cost, ok := impl.LogCost(l)
		isNothing(t, name, cost, ok)
	}
}

func TestHistories(t *testing.T) {
	for name, c := range map[string]struct {
		h   impl.History
		now impl.Log
	}{
		"a day": {day(), endOfDay()}, "no events": {impl.History{Base: talk()}, talk()}, "an empty list": {impl.History{Base: talk(), Events: []impl.Event{}}, talk()}, "nothing yet": {impl.History{Base: impl.Log{Next: 1}}, impl.Log{Next: 1}},
		"60 events": {impl.History{Base: talk(), Events: blinks(impl.MaxEvents)}, talk()}, "a full log": {impl.History{Base: longLog(), Events: []impl.Event{liked(40, 8), unliked(40, 8)}}, longLog()},
		"the first message": {impl.History{Base: impl.Log{Next: 1}, Events: []impl.Event{posted(1, 7, 5, "x", 0)}}, impl.Log{Next: 2, Messages: []impl.Message{said(1, 7, 5, "x", 0)}}},
	} {
		isBool(t, name, impl.ValidHistory(c.h), true)
		now, ok := impl.CurrentOf(c.h)
		isLog(t, name, now, ok, c.now)
	}
	for name, h := range badHistories() {
		isBool(t, name, impl.ValidHistory(h), false)
		now, ok := impl.CurrentOf(h)
		isNoLog(t, name, now, ok)
	}
}

func TestAddEvent(t *testing.T) {
	h := impl.History{Base: talk()}
	for i, e := range day().Events {
		var ok bool
		h, ok = impl.AddEvent(h, e)
		isHistory(t, fmt.Sprint("the event ", i), h, ok, impl.History{Base: talk(), Events: day().Events[:i+1]})
	}
	for i, e := range failing() {
		h, ok := impl.AddEvent(day(), e)
		isNoHistory(t, fmt.Sprint("the event ", i, " that fails"), h, ok)
	}
	for name, e := range badEvents() {
		h, ok := impl.AddEvent(impl.History{Base: talk()}, e)
		isNoHistory(t, name, h, ok)
	}
	more, ok := impl.AddEvent(impl.History{Base: talk(), Events: blinks(impl.MaxEvents - 1)}, unliked(3, 7))
	isHistory(t, "the event 60", more, ok, impl.History{Base: talk(), Events: blinks(impl.MaxEvents)})
	more, ok = impl.AddEvent(more, liked(3, 7))
	isNoHistory(t, "the event 61", more, ok)
	for name, h := range badHistories() {
		for _, e := range []impl.Event{liked(10, 50), edited(10, 8, "X")} {
			more, ok := impl.AddEvent(h, e)
			isNoHistory(t, name, more, ok)
		}
	}
}

func TestForgetEvents(t *testing.T) {
	base := talk()
	for count := range int64(len(day().Events) + 1) {
		if count > 0 {
			base, _ = impl.ApplyEvent(base, day().Events[count-1])
		}
		h, ok := impl.ForgetEvents(day(), count)
		isHistory(t, fmt.Sprint(count, " events"), h, ok, impl.History{Base: base, Events: day().Events[count:]})
		now, ok := impl.CurrentOf(h)
		isLog(t, fmt.Sprint("behind ", count, " events"), now, ok, endOfDay())
	}
	h, ok := impl.ForgetEvents(impl.History{Base: talk(), Events: blinks(impl.MaxEvents)}, impl.MaxEvents)
	isHistory(t, "60 events", h, ok, impl.History{Base: talk()})
	h, ok = impl.ForgetEvents(impl.History{Base: talk()}, 0)
	isHistory(t, "no events", h, ok, impl.History{Base: talk()})
	h, ok = impl.ForgetEvents(impl.History{Base: talk()}, 1)
	isNoHistory(t, "one of none", h, ok)
	for _, count := range []int64{-1, 17, 18, impl.MaxEvents, math.MinInt64, math.MaxInt64} {
		h, ok := impl.ForgetEvents(day(), count)
		isNoHistory(t, fmt.Sprint(count, " events"), h, ok)
	}
	for name, h := range badHistories() {
		for _, count := range []int64{0, 1, int64(len(h.Events))} {
			h, ok := impl.ForgetEvents(h, count)
			isNoHistory(t, name, h, ok)
		}
	}
}

func TestSyncFrom(t *testing.T) {
	// All compacted events cost less than the current log, so that it is never told instead of them.
	all := int64(len(day().Events))
	for seen := range all {
		few, _ := impl.CompactEvents(day().Events[seen:])
		s, ok := impl.SyncFrom(day(), seen)
		isSync(t, fmt.Sprint(seen, " are seen"), s, ok, impl.Sync{Kind: impl.SyncEvents, Events: few})
	}
	s, ok := impl.SyncFrom(day(), all-1)
	isSync(t, "the last but one is seen", s, ok, impl.Sync{Kind: impl.SyncEvents, Events: []impl.Event{liked(22, 1)}})
	s, ok = impl.SyncFrom(day(), all)
	isSync(t, "all are seen", s, ok, impl.Sync{Kind: impl.SyncNone})
	s, ok = impl.SyncFrom(day(), -1)
	isSync(t, "nothing is seen", s, ok, impl.Sync{Kind: impl.SyncWhole, Whole: endOfDay()})
	for _, l := range []impl.Log{talk(), longLog(), {Next: 1}} {
		s, ok = impl.SyncFrom(impl.History{Base: l}, 0)
		isSync(t, "there are no events", s, ok, impl.Sync{})
		s, ok = impl.SyncFrom(impl.History{Base: l}, -1)
		isSync(t, "there are no events, and nothing is seen", s, ok, impl.Sync{Kind: impl.SyncWhole, Whole: l})
	}
	// All likes cancel out: there are no events left, but they are more than those that are seen.
	blinking := impl.History{Base: talk(), Events: blinks(impl.MaxEvents)}
	s, ok = impl.SyncFrom(blinking, 0)
	isSync(t, "all cancel out", s, ok, impl.Sync{Kind: impl.SyncEvents})
	s, ok = impl.SyncFrom(blinking, 1)
	isSync(t, "all but one cancel out", s, ok, impl.Sync{Kind: impl.SyncEvents, Events: []impl.Event{unliked(3, 7)}})
	for _, seen := range []int64{-2, -3, all + 1, all + 2, impl.MaxEvents + 1, math.MinInt64, math.MaxInt64} {
		s, ok := impl.SyncFrom(day(), seen)
		isNoSync(t, fmt.Sprint(seen, " are seen"), s, ok)
	}
	s, ok = impl.SyncFrom(impl.History{Base: talk()}, 1)
	isNoSync(t, "one of none is seen", s, ok)
	for name, h := range badHistories() {
		for _, seen := range []int64{-1, 0, 1, int64(len(h.Events))} {
			s, ok := impl.SyncFrom(h, seen)
			isNoSync(t, name, s, ok)
		}
	}
}

// Where the events cost just as much as the log, the log is told.
func TestSyncsAtTheCostOfTheLog(t *testing.T) {
	for long := range int64(40) {
		base := impl.Log{Next: 2, Messages: []impl.Message{said(1, 7, 5, "begin", 0)}}
		first := edited(1, 7, strings.Repeat("a", int(long)))
		for name, events := range map[string][]impl.Event{
			// The edits cost 24 + long + 9, and the log 34 + 9.
			"two edits":             {first, edited(1, 7, "the other")},
			"likes that cancel out": {first, liked(1, 8), edited(1, 7, "the other"), unliked(1, 8)},
			// The events cost 24 + long, and the log 34.
			"taken back":          {first, takenBack(1, 7)},
			"likes that are gone": {liked(1, 8), liked(1, 9), first, unliked(1, 8), takenBack(1, 7)},
		} {
			h := impl.History{Base: base, Events: events}
			now, _ := impl.CurrentOf(h)
			few, _ := impl.CompactEvents(events)
			want := impl.Sync{Kind: impl.SyncEvents, Events: few}
			if long >= 10 {
				want = impl.Sync{Kind: impl.SyncWhole, Whole: now}
			}
			s, ok := impl.SyncFrom(h, 0)
			isSync(t, fmt.Sprint(name, " with ", long), s, ok, want)
			end, ok := impl.ApplySync(base, s)
			isLog(t, fmt.Sprint(name, " with ", long), end, ok, now)
		}
		// One event is always less than the log behind it.
		for _, e := range []impl.Event{first, liked(1, 8)} {
			s, ok := impl.SyncFrom(impl.History{Base: base, Events: []impl.Event{e}}, 0)
			isSync(t, "one event", s, ok, impl.Sync{Kind: impl.SyncEvents, Events: []impl.Event{e}})
		}
	}
	// The first message costs 12, and the log with it 34.
	s, ok := impl.SyncFrom(impl.History{Base: impl.Log{Next: 1}, Events: []impl.Event{posted(1, 7, 5, "", 0)}}, 0)
	isSync(t, "the first message", s, ok, impl.Sync{Kind: impl.SyncEvents, Events: []impl.Event{posted(1, 7, 5, "", 0)}})
}

// A device keeps to the kind; what another kind would need does not matter.
func TestApplySync(t *testing.T) {
	odd := impl.Log{Next: -1, Messages: []impl.Message{{Number: -5}}}
	for _, l := range []impl.Log{talk(), longLog(), {Next: 1}, {Next: impl.MaxValue}} {
		for _, whole := range []impl.Log{{}, odd, endOfDay()} {
			same, ok := impl.ApplySync(l, impl.Sync{Kind: impl.SyncNone, Whole: whole})
			isLog(t, "nothing", same, ok, l)
			same, ok = impl.ApplySync(l, impl.Sync{Kind: impl.SyncEvents, Whole: whole})
			isLog(t, "no events", same, ok, l)
			end, ok := impl.ApplySync(talk(), impl.Sync{Kind: impl.SyncEvents, Events: day().Events, Whole: whole})
			isLog(t, "events", end, ok, endOfDay())
		}
		for _, whole := range []impl.Log{talk(), longLog(), endOfDay(), {Next: 1}} {
			end, ok := impl.ApplySync(l, impl.Sync{Kind: impl.SyncWhole, Whole: whole})
			isLog(t, "the whole log", end, ok, whole)
		}
		for _, kind := range []int64{-1, 3, 4, math.MinInt64, math.MaxInt64} {
			end, ok := impl.ApplySync(l, impl.Sync{Kind: kind, Whole: talk()})
			isNoLog(t, fmt.Sprint("the kind ", kind), end, ok)
		}
		for name, whole := range badLogs() {
			end, ok := impl.ApplySync(l, impl.Sync{Kind: impl.SyncWhole, Whole: whole})
			isNoLog(t, name, end, ok)
		}
	}
	for name, events := range notEvents() {
		end, ok := impl.ApplySync(talk(), impl.Sync{Kind: impl.SyncEvents, Events: events})
		isNoLog(t, name, end, ok)
	}
	for i, e := range failing() {
		end, ok := impl.ApplySync(endOfDay(), impl.Sync{Kind: impl.SyncEvents, Events: []impl.Event{liked(10, 50), e}})
		isNoLog(t, fmt.Sprint("the event ", i, " that fails"), end, ok)
	}
	for name, l := range badLogs() {
		for kind := range int64(3) {
			end, ok := impl.ApplySync(l, impl.Sync{Kind: kind, Whole: talk()})
			isNoLog(t, name, end, ok)
		}
	}
}

func TestEventTexts(t *testing.T) {
	for text, e := range map[string]impl.Event{
		"0,20,7,9,3 new": day().Events[0], "0,1,7,0,0 hello": posted(1, 7, 0, "hello", 0), "0,1,1,0,0 ": posted(1, 1, 0, "", 0), "0,1,1,0,0  ": posted(1, 1, 0, " ", 0), "0,9,7,5,0  a  b ": posted(9, 7, 5, " a  b ", 0),
		"0,1000000000,1000,1000000,999999999 ~": posted(impl.MaxValue, impl.MaxMember, impl.MaxTick, "~", impl.MaxValue-1), "0,2,7,0,1 1,2 3": posted(2, 7, 0, "1,2 3", 1), "0,2,7,0,1 none": posted(2, 7, 0, "none", 1),
		"1,2,7,0,0 hi": edited(2, 7, "hi"), "1,2,7,0,0 ": edited(2, 7, ""), "1,2,7,0,0   ": edited(2, 7, "  "), "2,2,7,0,0 ": takenBack(2, 7), "3,2,8,0,0 ": liked(2, 8), "4,2,8,0,0 ": unliked(2, 8),
		"4,1000000000,1000,0,0 ": unliked(impl.MaxValue, impl.MaxMember),
	} {
		got, ok := impl.EventText(e)
		isValue(t, text, got, ok, text)
		back, ok := impl.ReadEvent(text)
		isValue(t, text+", read", back, ok, e)
	}
	for _, e := range slices.Concat(goodEvents(), day().Events, failing()) {
		text, ok := impl.EventText(e)
		isValue(t, fmt.Sprintf("%+v", e), text, ok, fmt.Sprintf("%d,%d,%d,%d,%d %s", e.Kind, e.Number, e.Member, e.At, e.Reply, e.Text))
		back, ok := impl.ReadEvent(text)
		isValue(t, text, back, ok, e)
	}
	for name, e := range badEvents() {
		text, ok := impl.EventText(e)
		isNothing(t, name, text, ok)
		// What its text would be is no text of a valid event.
		back, ok := impl.ReadEvent(fmt.Sprintf("%d,%d,%d,%d,%d %s", e.Kind, e.Number, e.Member, e.At, e.Reply, e.Text))
		isNothing(t, name, back, ok)
	}
}

func TestTextsOfNoEvent(t *testing.T) {
	for _, text := range append(oddStrings(),
		" ", "  ", "hello", " hello", "0", "0,1,7,0,0", "0,1,7,0,0hello", "0,1,7,0,0\thello", "0,1,7,0,0\nhello", "0,1,7,0 hello", "0,1,7,0,0,0 hello", "0,1,7,0, hello", ",0,1,7,0,0 hello", "0,1,7,0,0, hello", " 0,1,7,0,0 hello",
		"0, 1,7,0,0 hello", "0,1, 7,0,0 hello", "00,1,7,0,0 hello", "0,01,7,0,0 hello", "0,1,07,0,0 hello", "0,1,7,-0,0 hello", "+0,1,7,0,0 hello", "0,+1,7,0,0 hello", "0,1,7,0,00 hello", "0,1,7,0x0,0 hello", "0,1,7,0,0 hello\n",
		"0,1,7,0,0 h\x7f", "0,1,7,0,0 "+strings.Repeat("x", impl.MaxText+1), "none hello", "none", "none ", "0,1,7,none,0 hello", "5,1,7,0,0 ", "-1,1,7,0,0 ", "0,0,7,0,0 hello", "0,1,0,0,0 hello", "0,1,7,-1,0 hello", "0,1,7,0,1 hello",
		"0,1,7,0,-1 hello", "0,1,1001,0,0 hello", "0,1,7,1000001,0 hello", "0,1000000001,7,0,0 hello", "0,9223372036854775808,7,0,0 hello", "0,18446744073709551617,7,0,0 hello", "1,1,7,1,0 hello", "1,2,7,0,1 hello", "2,1,7,0,0 hello", "2,1,7,0,0  ",
		"3,1,7,0,0 x", "4,1,7,0,0 x", "2,1,7,0,0", "3,1,7,0,0", "4,1,7,0,0", "3,1,7,1,0 ", "3,2,7,0,1 ", strings.Repeat("0,", 100000)+"0 x", strings.Repeat(" ", 100000), strings.Repeat("0,1,7,0,0 ", 10000),
	) {
		e, ok := impl.ReadEvent(text)
		isNothing(t, fmt.Sprintf("%.60q", text), e, ok)
	}
}

// Whatever is read as an event is the text of it.
func TestEventsThatAreReadAreWrittenAgain(t *testing.T) {
	rounds := rand.New(rand.NewSource(22))
	read, refused := 0, 0
	for range 20000 {
		events := append(goodEvents(), day().Events...)
		text, _ := impl.EventText(events[rounds.Intn(len(events))])
		for range rounds.Intn(3) {
			place := rounds.Intn(len(text) + 1)
			piece := string("0123456789,-+ \n~ax"[rounds.Intn(18)])
			text = text[:place] + piece + text[min(place+rounds.Intn(2), len(text)):]
		}
		e, ok := impl.ReadEvent(text)
		if !ok {
			refused++
			isNothing(t, text, e, ok)
			continue
		}
		read++
		again, ok := impl.EventText(e)
		isValue(t, text, again, ok, text)
		isBool(t, text, impl.ValidEvent(e), true)
	}
	isBool(t, fmt.Sprint("both come often enough: ", read, " and ", refused), min(read, refused) > 3000, true)
}

// fewerOf tells without the program which events are needed, as the chapter says it.
func fewerOf(events []impl.Event) []impl.Event {
	isLike := func(e impl.Event) bool { return e.Kind == impl.EventLike || e.Kind == impl.EventUnlike }
	isMoot := func(i int) bool {
		return slices.ContainsFunc(events[i:], func(e impl.Event) bool { return e.Kind == impl.EventTakeBack && e.Number == events[i].Number })
	}
	var few []impl.Event
	for i, e := range events {
		if !isLike(e) {
			few = append(few, e)
			continue
		}
		if isMoot(i) {
			continue
		}
		var same []int
		for j, other := range events {
			if isLike(other) && !isMoot(j) && other.Number == e.Number && other.Member == e.Member {
				same = append(same, j)
			}
		}
		if len(same)%2 == 1 && same[len(same)-1] == i {
			few = append(few, e)
		}
	}
	return few
}

// someEvent returns an event that often can be done to a log, by one of so many members.
func someEvent(rounds *rand.Rand, l impl.Log, members int64) impl.Event {
	last := impl.Message{}
	if len(l.Messages) > 0 {
		last = l.Messages[len(l.Messages)-1]
	}
	kind, member, m := rounds.Intn(12), 1+rounds.Int63n(members), last
	if len(l.Messages) > 0 {
		m = l.Messages[rounds.Intn(len(l.Messages))]
	}
	text := strings.Repeat("x", rounds.Intn(3)*rounds.Intn(30))
	switch {
	case kind == 0 || m.Number == 0:
		return posted(l.Next, member, last.At+rounds.Int63n(2), text, rounds.Int63n(2)*m.Number)
	case kind == 1:
		return edited(m.Number, m.Sender, text)
	case kind == 2 && rounds.Intn(3) == 0:
		return takenBack(m.Number, m.Sender)
	case kind < 6 && len(m.Likes) > 0:
		return unliked(m.Number, m.Likes[rounds.Intn(len(m.Likes))])
	}
	return liked(m.Number, member)
}

// likesOnTheWay returns the most likes that a message has while events run that need not keep to MaxLikes.
func likesOnTheWay(l impl.Log, events []impl.Event) int {
	likes, most := map[int64]int{}, 0
	for _, m := range l.Messages {
		likes[m.Number] = len(m.Likes)
	}
	for _, e := range events {
		switch e.Kind {
		case impl.EventLike:
			likes[e.Number]++
		case impl.EventUnlike:
			likes[e.Number]--
		case impl.EventTakeBack:
			likes[e.Number] = 0
		}
		most = max(most, likes[e.Number])
	}
	return most
}

// someHistory returns a history of up to 60 events, with all its logs from the Base to the current one.
func someHistory(rounds *rand.Rand) (impl.History, []impl.Log) {
	members := 2 + rounds.Int63n(30)
	l := impl.Log{Next: 1 + rounds.Int63n(9)}
	for range rounds.Intn(30) {
		if after, ok := impl.ApplyEvent(l, someEvent(rounds, l, members)); ok {
			l = after
		}
	}
	h, logs := impl.History{Base: l}, []impl.Log{l}
	for range rounds.Intn(90) {
		e := someEvent(rounds, l, members)
		if after, ok := impl.ApplyEvent(l, e); ok && len(h.Events) < impl.MaxEvents {
			h.Events, l = append(h.Events, e), after
			logs = append(logs, l)
		}
	}
	return h, logs
}

// Promise 8: events, compacted or not, lead to the same log.
func TestCompactedEventsLeadToTheSameLog(t *testing.T) {
	rounds := rand.New(rand.NewSource(23))
	fewer, over := 0, 0
	for range 400 {
		h, logs := someHistory(rounds)
		for seen, l := range logs {
			events := h.Events[seen:]
			few, ok := impl.CompactEvents(events)
			isList(t, fmt.Sprint(events), few, ok, fewerOf(events)...)
			now, ok := impl.RunEvents(l, events)
			isLog(t, "all events", now, ok, logs[len(logs)-1])
			if likesOnTheWay(l, few) > impl.MaxLikes {
				over++
				continue
			}
			again, ok := impl.RunEvents(l, few)
			isLog(t, fmt.Sprint(few, " for ", events), again, ok, now)
			if len(few) < len(events) {
				fewer++
			}
		}
	}
	isBool(t, fmt.Sprint(fewer, " are compacted, and ", over, " have too many likes"), fewer > 2000 && over < fewer/10, true)
}

// Events in any order and number are compacted as the chapter says, whether they run or not.
func TestCompactedEventsThatDoNotRun(t *testing.T) {
	rounds := rand.New(rand.NewSource(24))
	for range 3000 {
		var events []impl.Event
		for range rounds.Intn(impl.MaxEvents + 1) {
			number, member := 1+rounds.Int63n(3), 1+rounds.Int63n(3)
			some := []impl.Event{liked(number, member), unliked(number, member), liked(number, member), unliked(number, member), edited(number, member, "x"), posted(number, member, 0, "", 0), takenBack(number, member)}
			events = append(events, some[rounds.Intn(len(some))])
		}
		few, ok := impl.CompactEvents(events)
		isList(t, fmt.Sprint(events), few, ok, fewerOf(events)...)
	}
}

// Promise 8: each device comes to the current log, whatever it has seen, and also if some of it is forgotten.
func TestDevicesComeToTheCurrentLog(t *testing.T) {
	rounds := rand.New(rand.NewSource(25))
	kinds := map[int64]int{}
	for range 300 {
		h, logs := someHistory(rounds)
		now := logs[len(logs)-1]
		current, ok := impl.CurrentOf(h)
		isLog(t, "the current log", current, ok, now)
		for seen := int64(-1); seen < int64(len(logs)); seen++ {
			device := impl.Log{Next: 1}
			if seen >= 0 {
				device = logs[seen]
			}
			few := fewerOf(h.Events[max(seen, 0):])
			s, ok := impl.SyncFrom(h, seen)
			isSync(t, fmt.Sprint(seen, " are seen of ", historyText(h)), s, ok, syncOf(seen, h, few, now))
			kinds[s.Kind]++
			if s.Kind == impl.SyncEvents && likesOnTheWay(device, few) > impl.MaxLikes {
				continue
			}
			end, ok := impl.ApplySync(device, s)
			isLog(t, fmt.Sprint("the device that has seen ", seen), end, ok, now)
		}
		count := rounds.Int63n(int64(len(logs)))
		later, ok := impl.ForgetEvents(h, count)
		isHistory(t, fmt.Sprint(count, " are forgotten"), later, ok, impl.History{Base: logs[count], Events: h.Events[count:]})
		current, ok = impl.CurrentOf(later)
		isLog(t, fmt.Sprint("the current log behind ", count), current, ok, now)
	}
	isBool(t, fmt.Sprint("each kind comes often enough: ", kinds), min(kinds[impl.SyncNone], kinds[impl.SyncEvents], kinds[impl.SyncWhole]) > 200, true)
}

// syncOf tells without the program what a device needs.
func syncOf(seen int64, h impl.History, few []impl.Event, now impl.Log) impl.Sync {
	if seen == int64(len(h.Events)) {
		return impl.Sync{}
	}
	cost, whole := 0, 10
	for _, e := range few {
		cost += 12 + len(e.Text)
	}
	for _, m := range now.Messages {
		whole += 24 + len(m.Text) + 2*len(m.Likes)
	}
	if seen == -1 || cost >= whole {
		return impl.Sync{Kind: impl.SyncWhole, Whole: now}
	}
	return impl.Sync{Kind: impl.SyncEvents, Events: few}
}
