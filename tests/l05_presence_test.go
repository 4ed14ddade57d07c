package tests

import (
	"fmt"
	"maps"
	"math"
	"math/rand"
	"slices"
	"testing"

	"loop.example/g01202/impl"
)

func lease(member, until int64) impl.Lease { return impl.Lease{Member: member, Until: until} }

func mark(member, upto int64) impl.Mark { return impl.Mark{Member: member, Upto: upto} }

// evening returns a presence in which 2 and 3 leave at the same tick, and so do 5 and 7; 5 types until it leaves, and 9 for longer.
// 1 types, but is not here, and 8 types, but its lease in Here is over at every tick.
func evening() impl.Presence {
	return impl.Presence{
		Here: []impl.Lease{
			lease(2, 15), lease(3, 15), lease(5, 20), lease(7, 20), lease(8, 0), lease(9, 30), lease(10, 13), lease(impl.MaxMember, impl.MaxTick),
		},
		Typing: []impl.Lease{lease(1, 25), lease(3, 12), lease(5, 20), lease(7, 15), lease(8, 9), lease(9, 40)},
		Marks:  []impl.Mark{mark(1, 0), mark(3, 7), mark(5, impl.MaxValue), mark(7, 12), mark(500, 9)},
	}
}

// fullPresence has as many leases and marks as there may be, of the members 10, 20 and so on up to 300.
func fullPresence() impl.Presence {
	var p impl.Presence
	for _, n := range upTo(impl.MaxPresent) {
		p.Here = append(p.Here, lease(10*n, 100+n))
		p.Typing = append(p.Typing, lease(10*n, 103))
		p.Marks = append(p.Marks, mark(10*n, n))
	}
	return p
}

func copyOfPresence(p impl.Presence) impl.Presence {
	return impl.Presence{Here: slices.Clone(p.Here), Typing: slices.Clone(p.Typing), Marks: slices.Clone(p.Marks)}
}

// butPresence returns a presence that is changed in one way.
func butPresence(p impl.Presence, change func(p *impl.Presence)) impl.Presence {
	p = copyOfPresence(p)
	change(&p)
	return p
}

// presenceText writes a presence out; an empty list and nil are the same.
func presenceText(p impl.Presence) string { return fmt.Sprintf("%+v", p) }

func isPresence(t *testing.T, what string, got impl.Presence, ok bool, want impl.Presence) {
	t.Helper()
	if !ok || presenceText(got) != presenceText(want) {
		t.Errorf("%s: got %v %v, want %v true", what, presenceText(got), ok, presenceText(want))
	}
}

func isNoPresence(t *testing.T, what string, got impl.Presence, ok bool) {
	t.Helper()
	isPresence(t, what, got, !ok, impl.Presence{})
}

// notTicks are numbers that are no ticks.
func notTicks() []int64 {
	return []int64{-1, -2, -impl.MaxLease, impl.MaxTick + 1, impl.MaxTick + 7, impl.MaxValue, math.MinInt64, math.MinInt64 + 1, math.MaxInt64 - 3, math.MaxInt64}
}

// notAmounts are numbers up to which nobody reads.
func notAmounts() []int64 {
	return []int64{-1, -7, impl.MaxValue + 1, math.MinInt64, math.MaxInt64}
}

// badPresences are presences that are not valid, each in just one list.
func badPresences() map[string]impl.Presence {
	bad := map[string]impl.Presence{}
	for name, change := range map[string]func(l *impl.Lease){
		"member 0":           func(l *impl.Lease) { l.Member = 0 },
		"member -1":          func(l *impl.Lease) { l.Member = -1 },
		"member 1001":        func(l *impl.Lease) { l.Member = impl.MaxMember + 1 },
		"the last int64":     func(l *impl.Lease) { l.Member = math.MaxInt64 },
		"Until -1":           func(l *impl.Lease) { l.Until = -1 },
		"Until too great":    func(l *impl.Lease) { l.Until = impl.MaxTick + 1 },
		"the least Until":    func(l *impl.Lease) { l.Until = math.MinInt64 },
		"the greatest Until": func(l *impl.Lease) { l.Until = math.MaxInt64 },
		"the empty lease":    func(l *impl.Lease) { *l = impl.Lease{} },
	} {
		// A lease alone is in order, whatever member it has.
		one := lease(7, 9)
		change(&one)
		bad["Here: "+name] = butPresence(evening(), func(p *impl.Presence) { p.Here = []impl.Lease{one} })
		bad["Typing: "+name] = butPresence(evening(), func(p *impl.Presence) { p.Typing = []impl.Lease{one} })
	}
	for name, one := range map[string]impl.Mark{
		"member 0": mark(0, 1), "member -1": mark(-1, 1), "member 1001": mark(impl.MaxMember+1, 1), "Upto -1": mark(7, -1), "Upto too great": mark(7, impl.MaxValue+1),
		"the least Upto": mark(7, math.MinInt64), "the greatest Upto": mark(7, math.MaxInt64), "the empty mark": {},
	} {
		bad["Marks: "+name] = butPresence(evening(), func(p *impl.Presence) { p.Marks = []impl.Mark{one} })
	}
	for name, change := range map[string]func(p *impl.Presence){
		"Here: another order":   func(p *impl.Presence) { p.Here[0], p.Here[1] = p.Here[1], p.Here[0] },
		"Typing: another order": func(p *impl.Presence) { slices.Reverse(p.Typing) },
		"Marks: another order":  func(p *impl.Presence) { p.Marks[3], p.Marks[4] = p.Marks[4], p.Marks[3] },
		"Here: a member twice":  func(p *impl.Presence) { p.Here[1].Member = 2 },
		"Typing: a lease twice": func(p *impl.Presence) { p.Typing[5] = p.Typing[4] },
		"Marks: a member twice": func(p *impl.Presence) { p.Marks[1].Member = 1 },
		"Here: a bad last one":  func(p *impl.Presence) { p.Here[7].Until++ },
		"31 leases in Here":     func(p *impl.Presence) { p.Here = append(fullPresence().Here, lease(301, 1)) },
		"31 leases in Typing":   func(p *impl.Presence) { p.Typing = append(fullPresence().Typing, lease(301, 1)) },
		"31 marks":              func(p *impl.Presence) { p.Marks = append(fullPresence().Marks, mark(301, 1)) },
	} {
		bad[name] = butPresence(evening(), change)
	}
	return bad
}

// The example of chapter 5.
func TestExampleOfPresence(t *testing.T) {
	p, ok := impl.Heartbeat(impl.Presence{}, 3, 10, 5)
	isPresence(t, "a heartbeat", p, ok, impl.Presence{Here: []impl.Lease{lease(3, 15)}})
	here, ok := impl.PresentAt(p, 14)
	isList(t, "at 14", here, ok, 3)
	here, ok = impl.PresentAt(p, 15)
	isList(t, "at 15", here, ok)
	next, ok := impl.NextChange(p, 10)
	isValue(t, "the next change", next, ok, 15)
}

func TestConstantsOfPresence(t *testing.T) {
	isList(t, "limits", []int64{impl.MaxPresent, impl.MaxLease, impl.TypingTicks}, true, 30, 1000, 6)
}

func TestValidPresence(t *testing.T) {
	for name, p := range map[string]impl.Presence{
		"as it is":         evening(),
		"all there may be": fullPresence(),
		"nobody":           {},
		"empty lists":      {Here: []impl.Lease{}, Typing: []impl.Lease{}, Marks: []impl.Mark{}},
		"Here alone":       {Here: evening().Here},
		"Typing alone":     {Typing: evening().Typing},
		"Marks alone":      {Marks: evening().Marks},
		"the least ones":   {Here: []impl.Lease{lease(1, 0)}, Typing: []impl.Lease{lease(1, 0)}, Marks: []impl.Mark{mark(1, 0)}},
		"the greatest ones": {
			Here: []impl.Lease{lease(impl.MaxMember, impl.MaxTick)}, Typing: []impl.Lease{lease(impl.MaxMember, impl.MaxTick)}, Marks: []impl.Mark{mark(impl.MaxMember, impl.MaxValue)},
		},
		"Untils that fall": {Here: []impl.Lease{lease(1, 9), lease(2, 8), lease(3, 8)}},
		"marks that fall":  {Marks: []impl.Mark{mark(1, 9), mark(2, 8), mark(3, 8)}},
	} {
		isBool(t, name, impl.ValidPresence(p), true)
	}
	for name, p := range badPresences() {
		isBool(t, name, impl.ValidPresence(p), false)
	}
}

func TestSamePresence(t *testing.T) {
	for name, change := range map[string]func(p *impl.Presence){
		"a member in Here":   func(p *impl.Presence) { p.Here[0].Member = 1 },
		"an Until in Here":   func(p *impl.Presence) { p.Here[7].Until-- },
		"a lease less":       func(p *impl.Presence) { p.Here = p.Here[:7] },
		"the first less":     func(p *impl.Presence) { p.Here = p.Here[1:] },
		"a lease more":       func(p *impl.Presence) { p.Here = append(p.Here, lease(0, 0)) },
		"nobody in Here":     func(p *impl.Presence) { p.Here = nil },
		"a member in Typing": func(p *impl.Presence) { p.Typing[5].Member = 10 },
		"an Until in Typing": func(p *impl.Presence) { p.Typing[0].Until = 24 },
		"a typist less":      func(p *impl.Presence) { p.Typing = p.Typing[:5] },
		"a typist more":      func(p *impl.Presence) { p.Typing = append(p.Typing, impl.Lease{}) },
		"nobody in Typing":   func(p *impl.Presence) { p.Typing = nil },
		"a member's mark":    func(p *impl.Presence) { p.Marks[4].Member = 501 },
		"an Upto":            func(p *impl.Presence) { p.Marks[0].Upto = 1 },
		"a mark less":        func(p *impl.Presence) { p.Marks = p.Marks[:4] },
		"a mark more":        func(p *impl.Presence) { p.Marks = append(p.Marks, impl.Mark{}) },
		"no marks":           func(p *impl.Presence) { p.Marks = nil },
		"another order":      func(p *impl.Presence) { slices.Reverse(p.Here) },
		"Typing is Here":     func(p *impl.Presence) { p.Here, p.Typing = p.Typing, p.Here },
	} {
		other := butPresence(evening(), change)
		isBool(t, name, impl.SamePresence(evening(), other) || impl.SamePresence(other, evening()), false)
		isBool(t, name+" in both", impl.SamePresence(other, butPresence(evening(), change)), true)
	}
	isBool(t, "a presence", impl.SamePresence(evening(), evening()), true)
	empty := impl.Presence{Here: []impl.Lease{}, Typing: []impl.Lease{}, Marks: []impl.Mark{}}
	isBool(t, "nobody", impl.SamePresence(empty, impl.Presence{}) && impl.SamePresence(impl.Presence{}, empty), true)
	for name, p := range badPresences() {
		isBool(t, name, impl.SamePresence(p, copyOfPresence(p)), true)
		isBool(t, name+" and a valid one", impl.SamePresence(p, evening()) || impl.SamePresence(evening(), p), false)
	}
}

func TestHeartbeat(t *testing.T) {
	for _, c := range []struct {
		member, now, ticks int64
		change             func(p *impl.Presence)
	}{
		{1, 0, 1, func(p *impl.Presence) { p.Here = slices.Insert(p.Here, 0, lease(1, 1)) }},
		{4, 10, impl.MaxLease, func(p *impl.Presence) { p.Here = slices.Insert(p.Here, 2, lease(4, 1010)) }},
		{999, impl.MaxTick - 1, 1, func(p *impl.Presence) { p.Here = slices.Insert(p.Here, 7, lease(999, impl.MaxTick)) }},
		{6, impl.MaxTick - impl.MaxLease, impl.MaxLease, func(p *impl.Presence) { p.Here = slices.Insert(p.Here, 3, lease(6, impl.MaxTick)) }},
		{5, 15, 4, func(p *impl.Presence) {}},
		{5, 15, 5, func(p *impl.Presence) {}},
		{5, 15, 6, func(p *impl.Presence) { p.Here[2].Until = 21 }},
		{5, 20, 1, func(p *impl.Presence) { p.Here[2].Until = 21 }},
		{5, 19, 1, func(p *impl.Presence) {}},
		{5, 0, 1, func(p *impl.Presence) {}},
		{5, 90, 7, func(p *impl.Presence) { p.Here[2].Until = 97 }},
		{8, 0, 1, func(p *impl.Presence) { p.Here[4].Until = 1 }},
		{impl.MaxMember, 0, impl.MaxLease, func(p *impl.Presence) {}},
		{impl.MaxMember, impl.MaxTick - 1, 1, func(p *impl.Presence) {}},
	} {
		p, ok := impl.Heartbeat(evening(), c.member, c.now, c.ticks)
		isPresence(t, fmt.Sprint(c.member, " at ", c.now, " for ", c.ticks), p, ok, butPresence(evening(), c.change))
	}
	for _, member := range notMembers() {
		p, ok := impl.Heartbeat(evening(), member, 10, 5)
		isNoPresence(t, fmt.Sprint("the member ", member), p, ok)
	}
	for _, ticks := range []int64{0, -1, -10, impl.MaxLease + 1, impl.MaxTick, math.MinInt64, math.MaxInt64 - 10, math.MaxInt64} {
		for _, member := range []int64{4, 5, impl.MaxMember} {
			p, ok := impl.Heartbeat(evening(), member, 10, ticks)
			isNoPresence(t, fmt.Sprint(member, " for ", ticks), p, ok)
		}
	}
	for _, now := range notTicks() {
		for _, member := range []int64{4, 5, impl.MaxMember} {
			p, ok := impl.Heartbeat(evening(), member, now, 5)
			isNoPresence(t, fmt.Sprint(member, " at ", now), p, ok)
		}
	}
}

// A lease that would end beyond the greatest tick is none, also for a member whose lease ends at it.
func TestLeasesBeyondTheGreatestTick(t *testing.T) {
	for _, member := range []int64{4, 5, impl.MaxMember} {
		for _, late := range [][]int64{{impl.MaxTick, 1}, {impl.MaxTick, impl.MaxLease}, {impl.MaxTick - 1, 2}, {impl.MaxTick - impl.MaxLease + 1, impl.MaxLease}} {
			p, ok := impl.Heartbeat(evening(), member, late[0], late[1])
			isNoPresence(t, fmt.Sprint(member, late), p, ok)
		}
	}
	p, ok := impl.StartTyping(evening(), impl.MaxMember, impl.MaxTick-impl.TypingTicks)
	isPresence(t, "typing until the greatest tick", p, ok, butPresence(evening(), func(p *impl.Presence) {
		p.Typing = append(p.Typing, lease(impl.MaxMember, impl.MaxTick))
	}))
	for now := int64(impl.MaxTick - impl.TypingTicks + 1); now <= impl.MaxTick; now++ {
		again, ok := impl.StartTyping(evening(), impl.MaxMember, now)
		isNoPresence(t, fmt.Sprint("typing at ", now), again, ok)
		again, ok = impl.StartTyping(p, impl.MaxMember, now)
		isNoPresence(t, fmt.Sprint("typing on at ", now), again, ok)
	}
}

func TestPresencesUpToTheLimit(t *testing.T) {
	less := butPresence(fullPresence(), func(p *impl.Presence) {
		p.Here, p.Typing, p.Marks = slices.Delete(p.Here, 4, 5), slices.Delete(p.Typing, 4, 5), slices.Delete(p.Marks, 4, 5)
	})
	p, ok := impl.Heartbeat(less, 50, 100, 5)
	isPresence(t, "the lease 30", p, ok, butPresence(less, func(p *impl.Presence) { p.Here = fullPresence().Here }))
	p, ok = impl.StartTyping(p, 50, 97)
	isPresence(t, "the typist 30", p, ok, butPresence(fullPresence(), func(p *impl.Presence) { p.Marks = less.Marks }))
	p, ok = impl.ReadUpTo(p, 50, 5)
	isPresence(t, "the mark 30", p, ok, fullPresence())
	for _, member := range []int64{1, 55, 301, impl.MaxMember} {
		p, ok := impl.Heartbeat(fullPresence(), member, 0, 5)
		isNoPresence(t, "the lease 31", p, ok)
		// A lease that is over counts as long as it is there.
		p, ok = impl.Heartbeat(fullPresence(), member, 5000, 5)
		isNoPresence(t, "the lease 31 behind all others", p, ok)
		p, ok = impl.ReadUpTo(fullPresence(), member, 0)
		isNoPresence(t, "the mark 31", p, ok)
		typing := butPresence(fullPresence(), func(p *impl.Presence) { p.Here = []impl.Lease{lease(member, 9)} })
		p, ok = impl.StartTyping(typing, member, 0)
		isNoPresence(t, "the typist 31", p, ok)
	}
	p, ok = impl.Heartbeat(fullPresence(), 50, 100, 6)
	isPresence(t, "a lease of 30", p, ok, butPresence(fullPresence(), func(p *impl.Presence) { p.Here[4].Until = 106 }))
}

func TestLeaveNow(t *testing.T) {
	for member, change := range map[int64]func(p *impl.Presence){
		1:              func(p *impl.Presence) { p.Typing = p.Typing[1:] },
		2:              func(p *impl.Presence) { p.Here = p.Here[1:] },
		3:              func(p *impl.Presence) { p.Here, p.Typing = slices.Delete(p.Here, 1, 2), slices.Delete(p.Typing, 1, 2) },
		8:              func(p *impl.Presence) { p.Here, p.Typing = slices.Delete(p.Here, 4, 5), slices.Delete(p.Typing, 4, 5) },
		9:              func(p *impl.Presence) { p.Here, p.Typing = slices.Delete(p.Here, 5, 6), p.Typing[:5] },
		impl.MaxMember: func(p *impl.Presence) { p.Here = p.Here[:7] },
	} {
		p, ok := impl.LeaveNow(evening(), member)
		isPresence(t, fmt.Sprint(member), p, ok, butPresence(evening(), change))
		p, ok = impl.LeaveNow(p, member)
		isNoPresence(t, fmt.Sprint(member, " again"), p, ok)
	}
	// 500 has a mark, but no lease.
	for _, member := range append(notMembers(), 4, 6, 11, 500, 999) {
		p, ok := impl.LeaveNow(evening(), member)
		isNoPresence(t, fmt.Sprint(member), p, ok)
		p, ok = impl.LeaveNow(impl.Presence{}, member)
		isNoPresence(t, fmt.Sprint(member, " and nobody"), p, ok)
	}
	p, ok := impl.LeaveNow(impl.Presence{Here: []impl.Lease{lease(4, 0)}}, 4)
	isPresence(t, "the last one", p, ok, impl.Presence{})
}

func TestStartTyping(t *testing.T) {
	for _, c := range []struct {
		member, now int64
		change      func(p *impl.Presence)
	}{
		{2, 0, func(p *impl.Presence) { p.Typing = slices.Insert(p.Typing, 1, lease(2, 6)) }},
		{2, 14, func(p *impl.Presence) { p.Typing = slices.Insert(p.Typing, 1, lease(2, 20)) }},
		{3, 5, func(p *impl.Presence) {}},
		{3, 6, func(p *impl.Presence) {}},
		{3, 7, func(p *impl.Presence) { p.Typing[1].Until = 13 }},
		{3, 14, func(p *impl.Presence) { p.Typing[1].Until = 20 }},
		{5, 19, func(p *impl.Presence) { p.Typing[2].Until = 25 }},
		{9, 0, func(p *impl.Presence) {}},
		{9, 29, func(p *impl.Presence) {}},
		{impl.MaxMember, 500000, func(p *impl.Presence) { p.Typing = append(p.Typing, lease(impl.MaxMember, 500006)) }},
	} {
		p, ok := impl.StartTyping(evening(), c.member, c.now)
		isPresence(t, fmt.Sprint(c.member, " at ", c.now), p, ok, butPresence(evening(), c.change))
	}
	for _, c := range [][]int64{{2, 15}, {2, 16}, {3, 15}, {5, 20}, {9, 30}, {9, 33}, {8, 0}, {8, 5}, {1, 0}, {1, 10}, {4, 0}, {500, 3}, {10, 13}, {2, impl.MaxTick}} {
		p, ok := impl.StartTyping(evening(), c[0], c[1])
		isNoPresence(t, fmt.Sprint(c[0], " at ", c[1]), p, ok)
	}
	for _, member := range notMembers() {
		p, ok := impl.StartTyping(evening(), member, 10)
		isNoPresence(t, fmt.Sprint("the member ", member), p, ok)
	}
	for _, now := range notTicks() {
		p, ok := impl.StartTyping(evening(), 9, now)
		isNoPresence(t, fmt.Sprint("at ", now), p, ok)
	}
}

// eveningAt returns what there is at a tick: the members who are here, those who type, and the tick of the next change, or 0.
func eveningAt(now int64) (here, typing []int64, next int64) {
	switch {
	case now < 12:
		return []int64{2, 3, 5, 7, 9, 10, impl.MaxMember}, []int64{3, 5, 7, 9}, 12
	case now < 13:
		return []int64{2, 3, 5, 7, 9, 10, impl.MaxMember}, []int64{5, 7, 9}, 13
	case now < 15:
		return []int64{2, 3, 5, 7, 9, impl.MaxMember}, []int64{5, 7, 9}, 15
	case now < 20:
		return []int64{5, 7, 9, impl.MaxMember}, []int64{5, 9}, 20
	case now < 30:
		return []int64{9, impl.MaxMember}, []int64{9}, 30
	case now < impl.MaxTick:
		return []int64{impl.MaxMember}, nil, impl.MaxTick
	}
	return nil, nil, 0
}

func ticksOfEvening() []int64 {
	return append(upTo(45), 0, 500000, impl.MaxTick-1, impl.MaxTick)
}

func TestWhoIsThere(t *testing.T) {
	for _, now := range ticksOfEvening() {
		wantHere, wantTyping, wantNext := eveningAt(now)
		here, ok := impl.PresentAt(evening(), now)
		isList(t, fmt.Sprint("here at ", now), here, ok, wantHere...)
		typing, ok := impl.TypingAt(evening(), now)
		isList(t, fmt.Sprint("typing at ", now), typing, ok, wantTyping...)
		next, ok := impl.NextChange(evening(), now)
		if wantNext == 0 {
			isNothing(t, fmt.Sprint("the next change behind ", now), next, ok)
		} else {
			isValue(t, fmt.Sprint("the next change behind ", now), next, ok, wantNext)
		}
	}
	for _, now := range notTicks() {
		here, ok := impl.PresentAt(evening(), now)
		isNoList(t, fmt.Sprint("here at ", now), here, ok)
		typing, ok := impl.TypingAt(evening(), now)
		isNoList(t, fmt.Sprint("typing at ", now), typing, ok)
		next, ok := impl.NextChange(evening(), now)
		isNothing(t, fmt.Sprint("the next change behind ", now), next, ok)
	}
	for name, p := range badPresences() {
		here, ok := impl.PresentAt(p, 10)
		isNoList(t, name, here, ok)
		typing, ok := impl.TypingAt(p, 10)
		isNoList(t, name, typing, ok)
		next, ok := impl.NextChange(p, 10)
		isNothing(t, name, next, ok)
	}
	for _, now := range []int64{0, 5, impl.MaxTick} {
		here, ok := impl.PresentAt(impl.Presence{}, now)
		isList(t, "nobody", here, ok)
		typing, ok := impl.TypingAt(impl.Presence{}, now)
		isList(t, "nobody", typing, ok)
	}
}

func TestNextChange(t *testing.T) {
	for name, c := range map[string]struct {
		here, typing []impl.Lease
		now, want    int64
	}{
		"nobody":                     {nil, nil, 0, 0},
		"typing without being here":  {nil, []impl.Lease{lease(3, 9)}, 5, 0},
		"typing of another member":   {[]impl.Lease{lease(3, 19)}, []impl.Lease{lease(4, 9)}, 5, 19},
		"typing ends before":         {[]impl.Lease{lease(3, 19)}, []impl.Lease{lease(3, 9)}, 5, 9},
		"typing has ended":           {[]impl.Lease{lease(3, 19)}, []impl.Lease{lease(3, 9)}, 9, 19},
		"typing ends together":       {[]impl.Lease{lease(3, 9)}, []impl.Lease{lease(3, 9)}, 5, 9},
		"typing ends behind":         {[]impl.Lease{lease(3, 9)}, []impl.Lease{lease(3, 19)}, 5, 9},
		"typing is left alone":       {[]impl.Lease{lease(3, 9)}, []impl.Lease{lease(3, 19)}, 9, 0},
		"all is over":                {[]impl.Lease{lease(3, 9)}, []impl.Lease{lease(3, 8)}, 100, 0},
		"at the end":                 {[]impl.Lease{lease(3, 9), lease(4, 9)}, nil, 9, 0},
		"one before the end":         {[]impl.Lease{lease(3, 9), lease(4, 9)}, nil, 8, 9},
		"another one's typing later": {[]impl.Lease{lease(3, 9), lease(4, 30)}, []impl.Lease{lease(3, 20), lease(4, 25)}, 9, 25},
		"over at every tick":         {[]impl.Lease{lease(3, 0)}, []impl.Lease{lease(3, 5)}, 0, 0},
		"the first tick":             {[]impl.Lease{lease(3, 1)}, nil, 0, 1},
		"the last tick":              {[]impl.Lease{lease(3, impl.MaxTick)}, nil, impl.MaxTick - 1, impl.MaxTick},
		"behind the last tick":       {[]impl.Lease{lease(3, impl.MaxTick)}, nil, impl.MaxTick, 0},
	} {
		next, ok := impl.NextChange(impl.Presence{Here: c.here, Typing: c.typing, Marks: evening().Marks}, c.now)
		if c.want == 0 {
			isNothing(t, name, next, ok)
		} else {
			isValue(t, name, next, ok, c.want)
		}
	}
}

func TestSweepPresence(t *testing.T) {
	for _, now := range ticksOfEvening() {
		here, typing, _ := eveningAt(now)
		want := butPresence(evening(), func(p *impl.Presence) {
			p.Here = slices.DeleteFunc(p.Here, func(l impl.Lease) bool { return !slices.Contains(here, l.Member) })
			p.Typing = slices.DeleteFunc(p.Typing, func(l impl.Lease) bool { return !slices.Contains(typing, l.Member) })
		})
		p, ok := impl.SweepPresence(evening(), now)
		isPresence(t, fmt.Sprint("at ", now), p, ok, want)
		p, ok = impl.SweepPresence(p, now)
		isPresence(t, fmt.Sprint("at ", now, " again"), p, ok, want)
	}
	p, ok := impl.SweepPresence(impl.Presence{}, 7)
	isPresence(t, "nobody", p, ok, impl.Presence{})
	p, ok = impl.SweepPresence(fullPresence(), 102)
	isPresence(t, "a full presence", p, ok, butPresence(fullPresence(), func(p *impl.Presence) { p.Here, p.Typing = p.Here[2:], p.Typing[2:] }))
	for _, now := range notTicks() {
		p, ok := impl.SweepPresence(evening(), now)
		isNoPresence(t, fmt.Sprint("at ", now), p, ok)
	}
}

func TestReadUpTo(t *testing.T) {
	for _, c := range []struct {
		member, number int64
		change         func(p *impl.Presence)
	}{
		{3, 0, func(p *impl.Presence) {}}, {3, 6, func(p *impl.Presence) {}}, {3, 7, func(p *impl.Presence) {}},
		{3, 8, func(p *impl.Presence) { p.Marks[1].Upto = 8 }},
		{3, impl.MaxValue, func(p *impl.Presence) { p.Marks[1].Upto = impl.MaxValue }},
		{1, 0, func(p *impl.Presence) {}},
		{1, 1, func(p *impl.Presence) { p.Marks[0].Upto = 1 }},
		{5, 0, func(p *impl.Presence) {}}, {5, impl.MaxValue, func(p *impl.Presence) {}},
		{2, 0, func(p *impl.Presence) { p.Marks = slices.Insert(p.Marks, 1, mark(2, 0)) }},
		{499, 9, func(p *impl.Presence) { p.Marks = slices.Insert(p.Marks, 4, mark(499, 9)) }},
		{impl.MaxMember, impl.MaxValue, func(p *impl.Presence) { p.Marks = append(p.Marks, mark(impl.MaxMember, impl.MaxValue)) }},
	} {
		p, ok := impl.ReadUpTo(evening(), c.member, c.number)
		isPresence(t, fmt.Sprint(c.member, " up to ", c.number), p, ok, butPresence(evening(), c.change))
	}
	for _, member := range notMembers() {
		p, ok := impl.ReadUpTo(evening(), member, 5)
		isNoPresence(t, fmt.Sprint("the member ", member), p, ok)
	}
	for _, number := range notAmounts() {
		for _, member := range []int64{2, 3, 5} {
			p, ok := impl.ReadUpTo(evening(), member, number)
			isNoPresence(t, fmt.Sprint(member, " up to ", number), p, ok)
		}
	}
}

func TestMarks(t *testing.T) {
	for member, want := range map[int64]int64{1: 0, 2: 0, 3: 7, 5: impl.MaxValue, 7: 12, 8: 0, 500: 9, 501: 0, impl.MaxMember: 0} {
		upto, ok := impl.MarkOf(evening(), member)
		isValue(t, fmt.Sprint("the mark of ", member), upto, ok, want)
		upto, ok = impl.MarkOf(impl.Presence{Here: evening().Here}, member)
		isValue(t, fmt.Sprint("no mark of ", member), upto, ok, 0)
	}
	for _, member := range notMembers() {
		upto, ok := impl.MarkOf(evening(), member)
		isNothing(t, fmt.Sprint("the mark of ", member), upto, ok)
	}
	for number, want := range map[int64][]int64{
		0: {1, 3, 5, 7, 500}, 1: {3, 5, 7, 500}, 7: {3, 5, 7, 500}, 8: {5, 7, 500}, 9: {5, 7, 500}, 10: {5, 7}, 12: {5, 7}, 13: {5}, impl.MaxValue: {5},
	} {
		readers, ok := impl.HaveRead(evening(), number)
		isList(t, fmt.Sprint("who has read ", number), readers, ok, want...)
		readers, ok = impl.HaveRead(impl.Presence{Here: evening().Here}, number)
		isList(t, fmt.Sprint("nobody has read ", number), readers, ok)
	}
	for _, number := range notAmounts() {
		readers, ok := impl.HaveRead(evening(), number)
		isNoList(t, fmt.Sprint("who has read ", number), readers, ok)
	}
	for name, p := range badPresences() {
		upto, ok := impl.MarkOf(p, 7)
		isNothing(t, name, upto, ok)
		readers, ok := impl.HaveRead(p, 0)
		isNoList(t, name, readers, ok)
	}
}

func TestUnreadOf(t *testing.T) {
	for member, want := range map[int64][]int64{
		1: {2, 3, 6, 9, 10, 13}, 2: {2, 3, 6, 9, 10, 13}, 3: {9, 10, 13}, 5: nil, 7: {13}, 8: {2, 6, 9, 13}, 9: {2, 3, 6, 10, 13}, 500: {10, 13}, impl.MaxMember: {2, 3, 6, 9, 10},
	} {
		unread, ok := impl.UnreadOf(evening(), talk(), member)
		isList(t, fmt.Sprint("unread by ", member), unread, ok, want...)
		unread, ok = impl.UnreadOf(evening(), impl.Log{Next: 9}, member)
		isList(t, "no messages", unread, ok)
	}
	for upto, want := range map[int64][]int64{0: {3, 9, 10, 13}, 2: {3, 9, 10, 13}, 3: {9, 10, 13}, 5: {9, 10, 13}, 9: {10, 13}, 10: {13}, 12: {13}, 13: nil, 14: nil} {
		unread, ok := impl.UnreadOf(impl.Presence{Marks: []impl.Mark{mark(6, 50), mark(7, upto), mark(8, 0)}}, talk(), 7)
		isList(t, fmt.Sprint("unread behind ", upto), unread, ok, want...)
	}
	all, ok := impl.UnreadOf(impl.Presence{}, longLog(), 8)
	isList(t, "40 messages", all, ok, upTo(impl.MaxMessages)...)
	own, ok := impl.UnreadOf(impl.Presence{}, longLog(), 7)
	isList(t, "one's own messages", own, ok)
	for _, member := range notMembers() {
		unread, ok := impl.UnreadOf(evening(), talk(), member)
		isNoList(t, fmt.Sprint("unread by ", member), unread, ok)
	}
	for name, p := range badPresences() {
		unread, ok := impl.UnreadOf(p, talk(), 7)
		isNoList(t, name, unread, ok)
	}
	for name, l := range badLogs() {
		unread, ok := impl.UnreadOf(evening(), l, 7)
		isNoList(t, name, unread, ok)
	}
}

// isBadge fails the test unless a badge has these two numbers.
func isBadge(t *testing.T, what string, presences []impl.Presence, logs []impl.Log, member, unread, mentions int64) {
	t.Helper()
	all, mentioning, ok := impl.BadgeOf(presences, logs, member)
	isList(t, what, []int64{all, mentioning}, ok, unread, mentions)
}

func isNoBadge(t *testing.T, what string, presences []impl.Presence, logs []impl.Log, member int64) {
	t.Helper()
	all, mentioning, ok := impl.BadgeOf(presences, logs, member)
	isNothing(t, what, [2]int64{all, mentioning}, ok)
}

func TestBadgeOf(t *testing.T) {
	one, nobody := []impl.Presence{evening()}, impl.Presence{}
	for member, want := range map[int64][2]int64{1: {6, 0}, 3: {3, 0}, 5: {0, 0}, 7: {1, 1}, 8: {4, 1}, 9: {5, 1}, 500: {2, 0}, impl.MaxMember: {5, 0}} {
		isBadge(t, fmt.Sprint("the badge of ", member), one, []impl.Log{talk()}, member, want[0], want[1])
	}
	two := []impl.Presence{evening(), nobody, nobody}
	isBadge(t, "of several rooms", two, []impl.Log{talk(), talk(), {Next: 7}}, 7, 5, 3)
	isBadge(t, "of the same rooms in another order", two, []impl.Log{{Next: 7}, talk(), longLog()}, 7, 4, 2)
	taken := but(talk(), func(l *impl.Log) {
		for i := range l.Messages {
			l.Messages[i].Gone, l.Messages[i].Text, l.Messages[i].Likes = true, "", nil
		}
	})
	isBadge(t, "of messages that are gone", []impl.Presence{nobody}, []impl.Log{taken}, 8, 0, 0)
	own := impl.Log{Next: 9, Messages: []impl.Message{said(1, 7, 0, "@7", 0), said(2, 7, 0, "I am @7", 0)}}
	isBadge(t, "of one's own messages", []impl.Presence{nobody}, []impl.Log{own}, 7, 0, 0)
	isBadge(t, "of what was told to another one", []impl.Presence{nobody}, []impl.Log{own}, 8, 2, 0)
	isBadge(t, "of no presence", nil, nil, 7, 0, 0)
	isBadge(t, "of empty lists", []impl.Presence{}, []impl.Log{}, impl.MaxMember, 0, 0)
	most, logs := slices.Repeat([]impl.Presence{nobody}, impl.MaxItems), slices.Repeat([]impl.Log{talk()}, impl.MaxItems)
	isBadge(t, "of 300 rooms", most, logs, 7, 1200, 600)
	isNoBadge(t, "of 301 rooms", append(most, nobody), append(logs, talk()), 7)
}

func TestBadgesThatFail(t *testing.T) {
	one, logs := []impl.Presence{evening()}, []impl.Log{talk()}
	isNoBadge(t, "no presence and a log", nil, logs, 7)
	isNoBadge(t, "no log and a presence", one, nil, 7)
	isNoBadge(t, "a log more", one, append(logs, talk()), 7)
	isNoBadge(t, "a presence more", append(one, evening()), logs, 7)
	for _, member := range notMembers() {
		isNoBadge(t, fmt.Sprint("the badge of ", member), one, logs, member)
		isNoBadge(t, fmt.Sprint("the badge of ", member, " in no room"), nil, nil, member)
	}
	for name, p := range badPresences() {
		isNoBadge(t, name, []impl.Presence{p}, logs, 7)
		isNoBadge(t, name+" behind another one", []impl.Presence{evening(), p}, []impl.Log{talk(), talk()}, 7)
	}
	for name, l := range badLogs() {
		isNoBadge(t, name, one, []impl.Log{l}, 7)
		isNoBadge(t, name+" behind another one", []impl.Presence{evening(), evening()}, []impl.Log{talk(), l}, 7)
	}
}

func TestJoinPresence(t *testing.T) {
	other := impl.Presence{
		Here:   []impl.Lease{lease(1, 5), lease(2, 14), lease(3, 16), lease(5, 20), lease(11, 3)},
		Typing: []impl.Lease{lease(3, 13), lease(5, 19), lease(6, 7)},
		Marks:  []impl.Mark{mark(1, 1), mark(2, 0), mark(3, 6), mark(5, 4), mark(7, 12), mark(500, 10), mark(impl.MaxMember, impl.MaxValue)},
	}
	want := impl.Presence{
		Here: []impl.Lease{
			lease(1, 5), lease(2, 15), lease(3, 16), lease(5, 20), lease(7, 20), lease(8, 0), lease(9, 30), lease(10, 13), lease(11, 3), lease(impl.MaxMember, impl.MaxTick),
		},
		Typing: []impl.Lease{lease(1, 25), lease(3, 13), lease(5, 20), lease(6, 7), lease(7, 15), lease(8, 9), lease(9, 40)},
		Marks:  []impl.Mark{mark(1, 1), mark(2, 0), mark(3, 7), mark(5, impl.MaxValue), mark(7, 12), mark(500, 10), mark(impl.MaxMember, impl.MaxValue)},
	}
	p, ok := impl.JoinPresence(evening(), other)
	isPresence(t, "both", p, ok, want)
	p, ok = impl.JoinPresence(other, evening())
	isPresence(t, "both in another order", p, ok, want)
	for _, same := range []impl.Presence{{}, evening(), {Here: evening().Here}, {Typing: evening().Typing}, {Marks: evening().Marks}} {
		p, ok = impl.JoinPresence(evening(), same)
		isPresence(t, "what is there already", p, ok, evening())
		p, ok = impl.JoinPresence(same, evening())
		isPresence(t, "all that there is", p, ok, evening())
	}
	for name, bad := range badPresences() {
		p, ok := impl.JoinPresence(evening(), bad)
		isNoPresence(t, name, p, ok)
		p, ok = impl.JoinPresence(bad, evening())
		isNoPresence(t, name, p, ok)
	}
	p, ok = impl.JoinPresence(impl.Presence{}, impl.Presence{})
	isPresence(t, "nobody", p, ok, impl.Presence{})
}

// Two presences with 30 members in all can be joined, and with 31 not, in whichever list they are.
func TestJoinUpToTheLimit(t *testing.T) {
	p, ok := impl.JoinPresence(fullPresence(), fullPresence())
	isPresence(t, "30 and the same ones", p, ok, fullPresence())
	for name, choose := range map[string]func(p impl.Presence) impl.Presence{
		"Here":   func(p impl.Presence) impl.Presence { return impl.Presence{Here: p.Here} },
		"Typing": func(p impl.Presence) impl.Presence { return impl.Presence{Typing: p.Typing} },
		"Marks":  func(p impl.Presence) impl.Presence { return impl.Presence{Marks: p.Marks} },
	} {
		part := func(from, to int) impl.Presence {
			p := fullPresence()
			return choose(impl.Presence{Here: p.Here[from:to], Typing: p.Typing[from:to], Marks: p.Marks[from:to]})
		}
		full := part(0, impl.MaxPresent)
		p, ok := impl.JoinPresence(part(0, 20), part(10, 30))
		isPresence(t, name+": 30", p, ok, full)
		p, ok = impl.JoinPresence(part(15, 30), part(0, 15))
		isPresence(t, name+": 15 and 15", p, ok, full)
		one := choose(impl.Presence{Here: []impl.Lease{lease(301, 1)}, Typing: []impl.Lease{lease(301, 1)}, Marks: []impl.Mark{mark(301, 1)}})
		p, ok = impl.JoinPresence(full, one)
		isNoPresence(t, name+": 31", p, ok)
		p, ok = impl.JoinPresence(one, full)
		isNoPresence(t, name+": 31", p, ok)
	}
}

// No presence that is not valid is changed, even if it would be valid then.
func TestChangesOfBadPresences(t *testing.T) {
	for name, p := range badPresences() {
		for _, member := range append(notMembers(), 301, 7, 3, 2, 1) {
			beat, ok := impl.Heartbeat(p, member, 10, 5)
			isNoPresence(t, name, beat, ok)
			left, ok := impl.LeaveNow(p, member)
			isNoPresence(t, name, left, ok)
			typing, ok := impl.StartTyping(p, member, 10)
			isNoPresence(t, name, typing, ok)
			read, ok := impl.ReadUpTo(p, member, 10)
			isNoPresence(t, name, read, ok)
		}
		for _, now := range []int64{0, 10, impl.MaxTick} {
			swept, ok := impl.SweepPresence(p, now)
			isNoPresence(t, name, swept, ok)
		}
	}
}

// aPresence chooses a presence of few members that are greater than one, whose leases end soon behind a tick.
func aPresence(rounds *rand.Rand, than, from int64) impl.Presence {
	var p impl.Presence
	until := func() int64 { return min(from+rounds.Int63n(9), impl.MaxTick) }
	for _, n := range upTo(6) {
		member := than + n
		if rounds.Intn(3) > 0 {
			p.Here = append(p.Here, lease(member, until()))
		}
		if rounds.Intn(3) > 0 {
			p.Typing = append(p.Typing, lease(member, until()))
		}
		if rounds.Intn(3) > 0 {
			p.Marks = append(p.Marks, mark(member, rounds.Int63n(30)))
		}
	}
	return p
}

// untilOf returns the tick at which the lease of a member in a list ends, or 0.
func untilOf(list []impl.Lease, member int64) int64 {
	for _, l := range list {
		if l.Member == member {
			return l.Until
		}
	}
	return 0
}

// thereAt tells without the program who is here and who types at a tick.
func thereAt(p impl.Presence, now int64) (here, typing []int64) {
	for _, member := range upTo(impl.MaxMember) {
		if untilOf(p.Here, member) <= now {
			continue
		}
		here = append(here, member)
		if untilOf(p.Typing, member) > now {
			typing = append(typing, member)
		}
	}
	return here, typing
}

// Promise 6: presence ends at its tick, and the next change is the first tick at which anything is other than at the tick before.
func TestPresenceEndsAtItsTick(t *testing.T) {
	rounds := rand.New(rand.NewSource(11))
	for round := range 120 {
		from := []int64{0, 0, 70, impl.MaxTick - 8}[round%4]
		p := aPresence(rounds, 0, from)
		last := min(from+12, impl.MaxTick)
		next := int64(0)
		for now := last; now >= from; now-- {
			what := fmt.Sprint(presenceText(p), " at ", now)
			wantHere, wantTyping := thereAt(p, now)
			here, ok := impl.PresentAt(p, now)
			isList(t, what+": here", here, ok, wantHere...)
			typing, ok := impl.TypingAt(p, now)
			isList(t, what+": typing", typing, ok, wantTyping...)
			change, ok := impl.NextChange(p, now)
			if ok != (next > 0) || change != next {
				t.Errorf("%s: got %d %v as the next change, want %d", what, change, ok, next)
			}
			if now > 0 {
				hereBefore, typingBefore := thereAt(p, now-1)
				if !slices.Equal(wantHere, hereBefore) || !slices.Equal(wantTyping, typingBefore) {
					next = now
				}
			}
		}
	}
}

// A visit is one of the functions that change a presence, with all that it needs.
type visit struct {
	name                string
	member, now, number int64
	other               impl.Presence
}

func (v visit) run(p impl.Presence) (impl.Presence, bool) {
	switch v.name {
	case "Heartbeat":
		return impl.Heartbeat(p, v.member, v.now, v.number)
	case "LeaveNow":
		return impl.LeaveNow(p, v.member)
	case "StartTyping":
		return impl.StartTyping(p, v.member, v.now)
	case "SweepPresence":
		return impl.SweepPresence(p, v.now)
	case "ReadUpTo":
		return impl.ReadUpTo(p, v.member, v.number)
	}
	return impl.JoinPresence(p, v.other)
}

// tables are the lists of a presence as maps.
type tables struct{ here, typing, marks map[int64]int64 }

func tablesOf(p impl.Presence) tables {
	x := tables{map[int64]int64{}, map[int64]int64{}, map[int64]int64{}}
	for _, l := range p.Here {
		x.here[l.Member] = l.Until
	}
	for _, l := range p.Typing {
		x.typing[l.Member] = l.Until
	}
	for _, m := range p.Marks {
		x.marks[m.Member] = m.Upto
	}
	return x
}

func (x tables) presence() impl.Presence {
	var p impl.Presence
	for _, member := range slices.Sorted(maps.Keys(x.here)) {
		p.Here = append(p.Here, lease(member, x.here[member]))
	}
	for _, member := range slices.Sorted(maps.Keys(x.typing)) {
		p.Typing = append(p.Typing, lease(member, x.typing[member]))
	}
	for _, member := range slices.Sorted(maps.Keys(x.marks)) {
		p.Marks = append(p.Marks, mark(member, x.marks[member]))
	}
	return p
}

// raise puts a number into a table if there is none that is greater.
func raise(table map[int64]int64, member, number int64) {
	if before, there := table[member]; !there || before < number {
		table[member] = number
	}
}

// expected does what run does, without the program.
func (v visit) expected(before impl.Presence) (impl.Presence, bool) {
	x, ok, isTick := tablesOf(before), true, v.now >= 0 && v.now <= 1000000
	switch v.name {
	case "Heartbeat":
		ok = isTick && v.number >= 1 && v.number <= 1000 && v.now+v.number <= 1000000
		raise(x.here, v.member, v.now+v.number)
	case "LeaveNow":
		leases := len(x.here) + len(x.typing)
		delete(x.here, v.member)
		delete(x.typing, v.member)
		ok = leases > len(x.here)+len(x.typing)
	case "StartTyping":
		ok = isTick && x.here[v.member] > v.now && v.now+6 <= 1000000
		raise(x.typing, v.member, v.now+6)
	case "SweepPresence":
		ok = isTick
		for _, member := range upTo(impl.MaxMember) {
			if x.here[member] <= v.now {
				delete(x.here, member)
			}
			if x.typing[member] <= v.now || x.here[member] == 0 {
				delete(x.typing, member)
			}
		}
	case "ReadUpTo":
		ok = v.number >= 0 && v.number <= 1000000000
		raise(x.marks, v.member, v.number)
	default:
		y := tablesOf(v.other)
		for _, both := range [][2]map[int64]int64{{x.here, y.here}, {x.typing, y.typing}, {x.marks, y.marks}} {
			for member, number := range both[1] {
				raise(both[0], member, number)
			}
		}
	}
	return x.presence(), ok && max(len(x.here), len(x.typing), len(x.marks)) <= 30
}

// aVisit chooses a function and what it needs, most often so that it succeeds.
func aVisit(rounds *rand.Rand, members, now int64) visit {
	names := []string{"Heartbeat", "Heartbeat", "Heartbeat", "LeaveNow", "StartTyping", "StartTyping", "StartTyping", "SweepPresence", "ReadUpTo", "ReadUpTo", "JoinPresence"}
	v := visit{names[rounds.Intn(len(names))], 1 + rounds.Int63n(members), now, rounds.Int63n(25), impl.Presence{}}
	if rounds.Intn(9) == 0 {
		v.number = []int64{-1, 1000, 1001, impl.MaxValue, impl.MaxValue + 1}[rounds.Intn(5)]
	}
	if v.name == "JoinPresence" {
		v.other = aPresence(rounds, rounds.Int63n(members), max(now, 0))
	}
	return v
}

// isOnlyLater fails the test unless all marks stay or grow, leases that stay do not end earlier, and one that was given ends at its tick.
func isOnlyLater(t *testing.T, v visit, before, after impl.Presence) {
	t.Helper()
	isBool(t, v.name+": the presence is valid", impl.ValidPresence(after), true)
	old, now := tablesOf(before), tablesOf(after)
	for member, upto := range old.marks {
		isBool(t, fmt.Sprint(v.name, ": the mark of ", member, " goes back"), now.marks[member] < upto, false)
	}
	for _, both := range [][2]map[int64]int64{{old.here, now.here}, {old.typing, now.typing}} {
		for member, until := range both[1] {
			isBool(t, fmt.Sprint(v.name, ": the lease of ", member, " ends earlier"), until < both[0][member], false)
		}
	}
	if v.name == "Heartbeat" {
		until := now.here[v.member]
		last, _ := impl.PresentAt(after, until-1)
		behind, _ := impl.PresentAt(after, until)
		isBool(t, fmt.Sprint(v.member, " is here until ", until), slices.Contains(last, v.member) && !slices.Contains(behind, v.member), true)
	}
}

// Promise 6: in long runs, presence ends at its tick, and marks never go back.
func TestRunsOfPresences(t *testing.T) {
	done, failed := map[string]int{}, map[string]int{}
	for seed := range int64(24) {
		rounds := rand.New(rand.NewSource(seed))
		var p impl.Presence
		now := 5 * seed
		if seed%8 == 7 {
			now = impl.MaxTick - 60
		}
		for range 400 {
			v := aVisit(rounds, 5+2*seed, now-rounds.Int63n(3))
			after, ok := v.run(p)
			want, able := v.expected(p)
			if ok != able || ok && presenceText(after) != presenceText(want) {
				t.Fatalf("%+v: %s becomes %s %v, want %s %v", v, presenceText(p), presenceText(after), ok, presenceText(want), able)
			}
			now += rounds.Int63n(4) / 3
			if !ok {
				isNoPresence(t, v.name, after, ok)
				failed[v.name]++
				continue
			}
			isOnlyLater(t, v, p, after)
			p = after
			done[v.name]++
		}
	}
	isBool(t, fmt.Sprint("all is done often enough: ", done), len(done) == 6 && slices.Min(countsIn(done)) > 300, true)
	isBool(t, fmt.Sprint("and fails often enough: ", failed), len(failed) == 6 && slices.Min(countsIn(failed)) > 30, true)
}
