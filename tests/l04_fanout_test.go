package tests

import (
	"fmt"
	"math"
	"math/rand"
	"slices"
	"strings"
	"testing"

	"loop.example/g01202/impl"
)

// Tokens in increasing order, with any bytes.
const (
	zeros  = "\x00\x00\x00\x00\x00\x00\x00\x00\x00\x00\x00\x00\x00\x00\x00\x00"
	first  = "aaaaaaaaaaaaaaaa"
	second = "aaaaaaaaaaaaaaab"
	mixed  = "\xc3\xa9 \n\x00\x7f\xfe,1234567\x00"
	ends   = "\xff\xff\xff\xff\xff\xff\xff\xff\xff\xff\xff\xff\xff\xff\xff\xff"
)

func parcel(room, number int64) impl.Parcel { return impl.Parcel{Room: room, Number: number} }

func box(token string, member, missed int64, held ...impl.Parcel) impl.Box {
	return impl.Box{Token: token, Member: member, Missed: missed, Held: held}
}

// mail returns a post in which two boxes are full, and the last one cannot miss any more; 7 has two boxes.
func mail() impl.Post {
	return impl.Post{Limit: 3, Boxes: []impl.Box{
		box(zeros, 7, 0),
		box(first, 8, 2, parcel(1, 1), parcel(1, 2), parcel(2, 1)),
		box(second, 7, 5, parcel(3, 9)),
		box(mixed, 1, impl.MaxValue-2, parcel(2, 2), parcel(2, 2), parcel(1, 7)),
		box(ends, impl.MaxMember, impl.MaxValue, parcel(impl.MaxRoom, impl.MaxTick), parcel(1, 1)),
	}}
}

func copyOfPost(p impl.Post) impl.Post {
	p.Boxes = slices.Clone(p.Boxes)
	for i, b := range p.Boxes {
		p.Boxes[i].Held = slices.Clone(b.Held)
	}
	return p
}

// butPost returns a post that is changed in one way.
func butPost(p impl.Post, change func(p *impl.Post)) impl.Post {
	p = copyOfPost(p)
	change(&p)
	return p
}

// butBox returns mail in which one box is changed.
func butBox(token string, change func(b *impl.Box)) impl.Post {
	return butPost(mail(), func(p *impl.Post) { change(boxIn(p, token)) })
}

// boxIn returns the box with a token, to be changed.
func boxIn(p *impl.Post, token string) *impl.Box {
	for i := range p.Boxes {
		if p.Boxes[i].Token == token {
			return &p.Boxes[i]
		}
	}
	return &impl.Box{}
}

// parcels returns count parcels of the rooms 1 to 5 in turn, with other Numbers than those of mail.
func parcels(count int) []impl.Parcel {
	list := make([]impl.Parcel, count)
	for i := range list {
		list[i] = parcel(1+int64(i)%5, 100+int64(i))
	}
	return list
}

// tokenAt returns the token i of many, in increasing order.
func tokenAt(i int) string { return fmt.Sprintf("%016d", i) }

// fullPost has as many boxes as a post may have, each of which holds as much as it may.
func fullPost() impl.Post {
	p := impl.Post{Limit: impl.MaxHeld}
	for i := range impl.MaxBoxes {
		p.Boxes = append(p.Boxes, box(tokenAt(i), 1+int64(i)/2, 0, parcels(impl.MaxHeld)...))
	}
	return p
}

// postText writes a post out; an empty list and nil are the same.
func postText(p impl.Post) string { return fmt.Sprintf("%+q", fmt.Sprintf("%+v", p)) }

func isPost(t *testing.T, what string, got impl.Post, ok bool, want impl.Post) {
	t.Helper()
	if !ok || postText(got) != postText(want) {
		t.Errorf("%s: got %v %v, want %v true", what, postText(got), ok, postText(want))
	}
}

func isNoPost(t *testing.T, what string, got impl.Post, ok bool) {
	t.Helper()
	isPost(t, what, got, !ok, impl.Post{})
}

// notTokens are strings that are no tokens, some of which have one in them, and tokens that no box of mail has.
func notTokens() []string {
	return []string{"", "a", first[1:], first + "a", first + first, ends + "\xff", zeros[:15], zeros + "\x00", strings.Repeat("a", 100000), "bbbbbbbbbbbbbbbb", "\x00" + first[1:]}
}

// notParcels are parcels with one number or both outside the limits.
func notParcels() []impl.Parcel {
	return []impl.Parcel{
		{}, parcel(0, 1), parcel(1, 0), parcel(-1, 1), parcel(1, -1), parcel(impl.MaxRoom+1, 1), parcel(1, impl.MaxTick+1),
		parcel(math.MinInt64, 1), parcel(1, math.MinInt64), parcel(math.MaxInt64, 1), parcel(1, math.MaxInt64),
	}
}

// notParcelLists are lists that are too long, or have something in them that is no parcel.
func notParcelLists() [][]impl.Parcel {
	lists := [][]impl.Parcel{parcels(impl.MaxHeld + 1), parcels(20000)}
	for _, bad := range notParcels() {
		lists = append(lists, []impl.Parcel{bad}, []impl.Parcel{bad, parcel(1, 1)}, []impl.Parcel{parcel(1, 1), bad})
	}
	return lists
}

// notSets are lists that are no sets of members.
func notSets() [][]int64 {
	return [][]int64{{0}, {-7}, {0, 7}, {7, 7}, {8, 7}, {7, 1001}, {impl.MaxMember + 1}, {math.MinInt64, 7}, {7, math.MaxInt64}, {1, 8, 7}}
}

// badPosts are posts that are not valid, most of them in just one field of one box.
func badPosts() map[string]impl.Post {
	bad := map[string]impl.Post{"the empty post": {}}
	for name, change := range map[string]func(p *impl.Post){
		"Limit 0":               func(p *impl.Post) { p.Limit, p.Boxes = 0, nil },
		"Limit -1":              func(p *impl.Post) { p.Limit, p.Boxes = -1, nil },
		"Limit 65":              func(p *impl.Post) { p.Limit = impl.MaxHeld + 1 },
		"the least Limit":       func(p *impl.Post) { p.Limit = math.MinInt64 },
		"the greatest Limit":    func(p *impl.Post) { p.Limit = math.MaxInt64 },
		"Limit one too little":  func(p *impl.Post) { p.Limit = 2 },
		"another order":         func(p *impl.Post) { p.Boxes[1], p.Boxes[2] = p.Boxes[2], p.Boxes[1] },
		"the last token first":  func(p *impl.Post) { p.Boxes[0], p.Boxes[4] = p.Boxes[4], p.Boxes[0] },
		"a token twice":         func(p *impl.Post) { p.Boxes[2].Token = first },
		"a box twice":           func(p *impl.Post) { p.Boxes[2] = p.Boxes[1] },
		"no token":              func(p *impl.Post) { p.Boxes[0].Token = "" },
		"a short token":         func(p *impl.Post) { p.Boxes[1].Token = first[1:] },
		"a long token":          func(p *impl.Post) { p.Boxes[1].Token += "\x00" },
		"a long last token":     func(p *impl.Post) { p.Boxes[4].Token += ends },
		"member 0":              func(p *impl.Post) { p.Boxes[0].Member = 0 },
		"member -1":             func(p *impl.Post) { p.Boxes[3].Member = -1 },
		"member 1001":           func(p *impl.Post) { p.Boxes[4].Member = impl.MaxMember + 1 },
		"Missed -1":             func(p *impl.Post) { p.Boxes[0].Missed = -1 },
		"Missed too great":      func(p *impl.Post) { p.Boxes[4].Missed = impl.MaxValue + 1 },
		"the greatest Missed":   func(p *impl.Post) { p.Boxes[4].Missed = math.MaxInt64 },
		"the empty box":         func(p *impl.Post) { p.Boxes[0] = impl.Box{} },
		"one parcel too many":   func(p *impl.Post) { p.Boxes[1].Held = parcels(4) },
		"too many for any post": func(p *impl.Post) { p.Limit, p.Boxes[1].Held = impl.MaxHeld, parcels(impl.MaxHeld+1) },
	} {
		bad[name] = butPost(mail(), change)
	}
	for i, no := range notParcels() {
		bad[fmt.Sprint("a bad parcel ", i)] = butBox(first, func(b *impl.Box) { b.Held[i%3] = no })
	}
	bad["33 boxes"] = butPost(fullPost(), func(p *impl.Post) { p.Boxes = append(p.Boxes, box(tokenAt(impl.MaxBoxes), 1, 0)) })
	return bad
}

// The examples of chapter 4.
func TestExamplesOfPosts(t *testing.T) {
	fair, ok := impl.FairOrder([]impl.Parcel{parcel(1, 1), parcel(1, 2), parcel(1, 3), parcel(2, 4)}, 0)
	isList(t, "fair turns", fair, ok, parcel(1, 1), parcel(2, 4), parcel(1, 2), parcel(1, 3))
	p, _ := impl.NewPost(2)
	p, ok = impl.AddBox(p, first, 7)
	isPost(t, "a box", p, ok, impl.Post{Limit: 2, Boxes: []impl.Box{box(first, 7, 0)}})
	three := []impl.Parcel{parcel(1, 1), parcel(1, 2), parcel(2, 1)}
	want := impl.Post{Limit: 2, Boxes: []impl.Box{box(first, 7, 1, three[1:]...)}}
	all, got, ok := impl.SendAll(p, []int64{7}, three)
	isPost(t, "three parcels", all, ok, want)
	isValue(t, "three parcels", got, ok, 3)
	for _, one := range three {
		p, got, ok = impl.SendTo(p, []int64{7}, one)
		isValue(t, "one parcel", got, ok, 1)
	}
	isPost(t, "three times one parcel", p, ok, want)
}

func TestConstantsOfPosts(t *testing.T) {
	isList(t, "limits", []int64{impl.MaxBoxes, impl.MaxHeld, impl.MaxRoom}, true, 32, 64, 1000)
}

func TestValidPost(t *testing.T) {
	for name, p := range map[string]impl.Post{
		"as it is":            mail(),
		"all that there may":  fullPost(),
		"the greatest Limit":  butPost(mail(), func(p *impl.Post) { p.Limit = impl.MaxHeld }),
		"the least Limit":     {Limit: 1, Boxes: []impl.Box{box(first, 1, 0, parcel(1, 1))}},
		"no boxes":            {Limit: 1},
		"empty boxes":         {Limit: impl.MaxHeld, Boxes: []impl.Box{}},
		"an empty Held":       butBox(zeros, func(b *impl.Box) { b.Held = []impl.Parcel{} }),
		"the first member":    butBox(zeros, func(b *impl.Box) { b.Member = 1 }),
		"the last member":     butBox(zeros, func(b *impl.Box) { b.Member = impl.MaxMember }),
		"the greatest Missed": butBox(zeros, func(b *impl.Box) { b.Missed = impl.MaxValue }),
		"the last parcels":    butBox(zeros, func(b *impl.Box) { b.Held = []impl.Parcel{parcel(impl.MaxRoom, 1), parcel(1, impl.MaxTick)} }),
		"parcels that fall":   butBox(first, func(b *impl.Box) { slices.Reverse(b.Held) }),
		"one parcel thrice":   butBox(first, func(b *impl.Box) { b.Held = slices.Repeat([]impl.Parcel{parcel(4, 4)}, 3) }),
		"one box":             butPost(fullPost(), func(p *impl.Post) { p.Boxes = p.Boxes[31:] }),
	} {
		isBool(t, name, impl.ValidPost(p), true)
	}
	for name, p := range badPosts() {
		isBool(t, name, impl.ValidPost(p), false)
	}
}

func TestSamePost(t *testing.T) {
	for name, change := range map[string]func(p *impl.Post){
		"Limit":           func(p *impl.Post) { p.Limit = 4 },
		"a token":         func(p *impl.Post) { p.Boxes[4].Token = "\xfe" + ends[1:] },
		"a longer token":  func(p *impl.Post) { p.Boxes[4].Token += "\x00" },
		"a member":        func(p *impl.Post) { p.Boxes[0].Member = 6 },
		"Missed":          func(p *impl.Post) { p.Boxes[2].Missed = 4 },
		"a Room":          func(p *impl.Post) { p.Boxes[1].Held[1].Room = 2 },
		"a Number":        func(p *impl.Post) { p.Boxes[1].Held[2].Number = 2 },
		"a parcel less":   func(p *impl.Post) { p.Boxes[1].Held = p.Boxes[1].Held[:2] },
		"a parcel more":   func(p *impl.Post) { p.Boxes[2].Held = append(p.Boxes[2].Held, parcel(3, 9)) },
		"no parcels":      func(p *impl.Post) { p.Boxes[2].Held = nil },
		"another order":   func(p *impl.Post) { slices.Reverse(p.Boxes[1].Held) },
		"boxes reversed":  func(p *impl.Post) { slices.Reverse(p.Boxes) },
		"a box less":      func(p *impl.Post) { p.Boxes = p.Boxes[:4] },
		"the first less":  func(p *impl.Post) { p.Boxes = p.Boxes[1:] },
		"a box more":      func(p *impl.Post) { p.Boxes = append(p.Boxes, impl.Box{}) },
		"no boxes":        func(p *impl.Post) { p.Boxes = nil },
		"held by another": func(p *impl.Post) { p.Boxes[0].Held, p.Boxes[2].Held = p.Boxes[2].Held, nil },
	} {
		other := butPost(mail(), change)
		isBool(t, name, impl.SamePost(mail(), other), false)
		isBool(t, name, impl.SamePost(other, mail()), false)
		isBool(t, name+" in both", impl.SamePost(other, butPost(mail(), change)), true)
	}
	isBool(t, "a post", impl.SamePost(mail(), mail()), true)
	none := impl.Post{Limit: -4, Boxes: []impl.Box{}}
	isBool(t, "no boxes", impl.SamePost(none, impl.Post{Limit: -4}) && impl.SamePost(impl.Post{Limit: -4}, none), true)
	empty := butBox(zeros, func(b *impl.Box) { b.Held = []impl.Parcel{} })
	isBool(t, "nothing held", impl.SamePost(empty, mail()) && impl.SamePost(mail(), empty), true)
	for name, p := range badPosts() {
		isBool(t, name, impl.SamePost(p, copyOfPost(p)), true)
		isBool(t, name+" and a valid one", impl.SamePost(p, mail()) || impl.SamePost(mail(), p), false)
	}
}

func TestNewPost(t *testing.T) {
	for _, limit := range upTo(impl.MaxHeld) {
		p, ok := impl.NewPost(limit)
		isPost(t, fmt.Sprint("the limit ", limit), p, ok, impl.Post{Limit: limit})
	}
	for _, limit := range []int64{0, -1, impl.MaxHeld + 1, impl.MaxValue, math.MinInt64, math.MaxInt64} {
		p, ok := impl.NewPost(limit)
		isNoPost(t, fmt.Sprint("the limit ", limit), p, ok)
	}
}

// A new box lies where its token belongs, and has missed nothing.
func TestAddBox(t *testing.T) {
	for token, place := range map[string]int{
		zeros[1:] + "\x01": 1, "\x01" + zeros[1:]: 1, first[:15] + "\xff": 3, first[:15] + "\x00": 1, "b" + zeros[1:]: 3, "\xc3" + zeros[1:]: 3, ends[:15] + "\xfe": 4, "\xc3\xaa" + zeros[2:]: 4,
	} {
		for _, member := range []int64{1, 7, 8, 500, impl.MaxMember} {
			p, ok := impl.AddBox(mail(), token, member)
			isPost(t, fmt.Sprintf("%q", token), p, ok, butPost(mail(), func(p *impl.Post) { p.Boxes = slices.Insert(p.Boxes, place, box(token, member, 0)) }))
		}
	}
	for _, b := range mail().Boxes {
		p, ok := impl.AddBox(mail(), b.Token, 500)
		isNoPost(t, fmt.Sprintf("%q again", b.Token), p, ok)
	}
	for _, token := range notTokens()[:9] {
		p, ok := impl.AddBox(mail(), token, 7)
		isNoPost(t, fmt.Sprintf("%.40q", token), p, ok)
		p, ok = impl.AddBox(impl.Post{Limit: 3}, token, 7)
		isNoPost(t, fmt.Sprintf("%.40q alone", token), p, ok)
	}
	for _, member := range notMembers() {
		p, ok := impl.AddBox(mail(), "bbbbbbbbbbbbbbbb", member)
		isNoPost(t, fmt.Sprint("the member ", member), p, ok)
	}
	for name, p := range badPosts() {
		p, ok := impl.AddBox(p, "bbbbbbbbbbbbbbbb", 7)
		isNoPost(t, name, p, ok)
	}
	alone, ok := impl.AddBox(impl.Post{Limit: 1}, zeros, 7)
	isPost(t, "the first box", alone, ok, impl.Post{Limit: 1, Boxes: []impl.Box{box(zeros, 7, 0)}})
}

func TestBoxesUpToTheLimit(t *testing.T) {
	for _, i := range []int{0, 15, 31} {
		less := butPost(fullPost(), func(p *impl.Post) { p.Boxes = slices.Delete(p.Boxes, i, i+1) })
		p, ok := impl.AddBox(less, tokenAt(i), 500)
		isPost(t, "the box 32", p, ok, butPost(fullPost(), func(p *impl.Post) { p.Boxes[i] = box(tokenAt(i), 500, 0) }))
	}
	for _, token := range []string{tokenAt(32), zeros, ends} {
		p, ok := impl.AddBox(fullPost(), token, 1)
		isNoPost(t, "the box 33", p, ok)
	}
}

func TestDropBox(t *testing.T) {
	for i, b := range mail().Boxes {
		p, ok := impl.DropBox(mail(), b.Token)
		isPost(t, fmt.Sprintf("%q", b.Token), p, ok, butPost(mail(), func(p *impl.Post) { p.Boxes = slices.Delete(p.Boxes, i, i+1) }))
		again, ok := impl.DropBox(p, b.Token)
		isNoPost(t, fmt.Sprintf("%q again", b.Token), again, ok)
		back, ok := impl.AddBox(p, b.Token, b.Member)
		isPost(t, fmt.Sprintf("%q is new", b.Token), back, ok, butBox(b.Token, func(b *impl.Box) { b.Missed, b.Held = 0, nil }))
	}
	for _, token := range notTokens() {
		p, ok := impl.DropBox(mail(), token)
		isNoPost(t, fmt.Sprintf("%.40q", token), p, ok)
	}
	noZeros := butPost(mail(), func(p *impl.Post) { p.Boxes = p.Boxes[1:] })
	p, ok := impl.DropBox(noZeros, zeros)
	isNoPost(t, "zeros that are not there", p, ok)
	p, ok = impl.DropBox(impl.Post{Limit: 3}, first)
	isNoPost(t, "no boxes", p, ok)
	p, ok = impl.DropBox(impl.Post{Limit: 3, Boxes: []impl.Box{box(first, 1, 0)}}, first)
	isPost(t, "the last box", p, ok, impl.Post{Limit: 3})
	for name, p := range badPosts() {
		p, ok := impl.DropBox(p, first)
		isNoPost(t, name, p, ok)
	}
}

func TestTokensOf(t *testing.T) {
	for member, want := range map[int64][]string{7: {zeros, second}, 8: {first}, 1: {mixed}, impl.MaxMember: {ends}, 2: nil, 999: nil} {
		tokens, ok := impl.TokensOf(mail(), member)
		isList(t, fmt.Sprint(member), tokens, ok, want...)
	}
	for _, member := range notMembers() {
		tokens, ok := impl.TokensOf(mail(), member)
		isNoList(t, fmt.Sprint(member), tokens, ok)
	}
	all := butPost(fullPost(), func(p *impl.Post) {
		for i := range p.Boxes {
			p.Boxes[i].Member = 9
		}
	})
	tokens, ok := impl.TokensOf(all, 9)
	isBool(t, "32 tokens", ok && len(tokens) == impl.MaxBoxes && slices.IsSorted(tokens), true)
	for name, p := range badPosts() {
		tokens, ok := impl.TokensOf(p, 7)
		isNoList(t, name, tokens, ok)
	}
}

// isSent fails the test unless parcels come into the boxes of members and nowhere else.
func isSent(t *testing.T, what string, members []int64, list []impl.Parcel, boxes int64, want impl.Post) {
	t.Helper()
	p, got, ok := impl.SendAll(mail(), members, list)
	isPost(t, what, p, ok, want)
	isValue(t, what, got, ok, boxes*int64(len(list)))
	if len(list) == 1 {
		p, got, ok := impl.SendTo(mail(), members, list[0])
		isPost(t, what+" by SendTo", p, ok, want)
		isValue(t, what+" by SendTo", got, ok, boxes)
	}
}

func TestSend(t *testing.T) {
	x, y, z, last := parcel(9, 1), parcel(8, 2), parcel(9, 1), parcel(impl.MaxRoom, impl.MaxTick)
	change := func(change func(p *impl.Post)) impl.Post { return butPost(mail(), change) }
	isSent(t, "to nobody", nil, []impl.Parcel{x}, 0, mail())
	isSent(t, "to those without boxes", []int64{2, 6, 9, 999}, []impl.Parcel{x}, 0, mail())
	isSent(t, "nothing", []int64{1, 7, 8, impl.MaxMember}, nil, 4, mail())
	isSent(t, "to both boxes of 7", []int64{7}, []impl.Parcel{x}, 2, change(func(p *impl.Post) {
		p.Boxes[0].Held = []impl.Parcel{x}
		p.Boxes[2].Held = []impl.Parcel{parcel(3, 9), x}
	}))
	isSent(t, "to a box that is full", []int64{8}, []impl.Parcel{x}, 1, change(func(p *impl.Post) {
		p.Boxes[1].Missed, p.Boxes[1].Held = 3, []impl.Parcel{parcel(1, 2), parcel(2, 1), x}
	}))
	isSent(t, "up to the limit", []int64{impl.MaxMember}, []impl.Parcel{last}, 1, change(func(p *impl.Post) { p.Boxes[4].Held = append(p.Boxes[4].Held, last) }))
	isSent(t, "to some", []int64{2, 7, 8, 9}, []impl.Parcel{x}, 3, change(func(p *impl.Post) {
		p.Boxes[0].Held = []impl.Parcel{x}
		p.Boxes[1].Missed, p.Boxes[1].Held = 3, []impl.Parcel{parcel(1, 2), parcel(2, 1), x}
		p.Boxes[2].Held = []impl.Parcel{parcel(3, 9), x}
	}))
	isSent(t, "to all", []int64{1, 7, 8, impl.MaxMember}, []impl.Parcel{x}, 5, change(func(p *impl.Post) {
		p.Boxes[0].Held = []impl.Parcel{x}
		p.Boxes[1].Missed, p.Boxes[1].Held = 3, []impl.Parcel{parcel(1, 2), parcel(2, 1), x}
		p.Boxes[2].Held = []impl.Parcel{parcel(3, 9), x}
		p.Boxes[3].Missed, p.Boxes[3].Held = impl.MaxValue-1, []impl.Parcel{parcel(2, 2), parcel(1, 7), x}
		p.Boxes[4].Held = append(p.Boxes[4].Held, x)
	}))
	isSent(t, "up to the limit of both", []int64{7}, []impl.Parcel{x, y}, 2, change(func(p *impl.Post) {
		p.Boxes[0].Held = []impl.Parcel{x, y}
		p.Boxes[2].Held = []impl.Parcel{parcel(3, 9), x, y}
	}))
	isSent(t, "one beyond the limit", []int64{7, 8}, []impl.Parcel{x, y, z}, 3, change(func(p *impl.Post) {
		p.Boxes[0].Held = []impl.Parcel{x, y, z}
		p.Boxes[1].Missed, p.Boxes[1].Held = 5, []impl.Parcel{x, y, z}
		p.Boxes[2].Missed, p.Boxes[2].Held = 6, []impl.Parcel{x, y, z}
	}))
	isSent(t, "two beyond the limit", []int64{7}, []impl.Parcel{last, x, y, z}, 2, change(func(p *impl.Post) {
		p.Boxes[0].Missed, p.Boxes[0].Held = 1, []impl.Parcel{x, y, z}
		p.Boxes[2].Missed, p.Boxes[2].Held = 7, []impl.Parcel{x, y, z}
	}))
	most := parcels(impl.MaxHeld)
	isSent(t, "as many as there may be", []int64{7}, most, 2, change(func(p *impl.Post) {
		p.Boxes[0].Missed, p.Boxes[0].Held = 61, most[61:]
		p.Boxes[2].Missed, p.Boxes[2].Held = 67, most[61:]
	}))
}

// isNotSent fails the test unless sending fails.
func isNotSent(t *testing.T, what string, p impl.Post, members []int64, list ...impl.Parcel) {
	t.Helper()
	after, got, ok := impl.SendAll(p, members, list)
	isNoPost(t, what, after, ok)
	isNothing(t, what, got, ok)
	if len(list) == 1 {
		after, got, ok := impl.SendTo(p, members, list[0])
		isNoPost(t, what+" by SendTo", after, ok)
		isNothing(t, what+" by SendTo", got, ok)
	}
}

func TestWhatIsNotSent(t *testing.T) {
	for _, list := range notParcelLists() {
		isNotSent(t, fmt.Sprintf("%.80v", list), mail(), []int64{7}, list...)
		isNotSent(t, fmt.Sprintf("%.80v to nobody", list), mail(), nil, list...)
		isNotSent(t, fmt.Sprintf("%.80v without boxes", list), impl.Post{Limit: 3}, []int64{7}, list...)
	}
	for _, members := range notSets() {
		isNotSent(t, fmt.Sprint(members), mail(), members, parcel(1, 1))
		isNotSent(t, fmt.Sprint("nothing to ", members), mail(), members)
		isNotSent(t, fmt.Sprint("without boxes to ", members), impl.Post{Limit: 3}, members, parcel(1, 1))
	}
	for name, p := range badPosts() {
		isNotSent(t, name, p, []int64{7}, parcel(1, 1))
		isNotSent(t, name, p, nil, parcel(1, 1))
		isNotSent(t, name, p, nil)
	}
}

// Missed reaches its greatest value, and what would be beyond it fails for all boxes.
func TestMissedUpToTheLimit(t *testing.T) {
	p, got, ok := impl.SendAll(mail(), []int64{1}, parcels(2))
	isPost(t, "up to the greatest Missed", p, ok, butBox(mixed, func(b *impl.Box) {
		b.Missed, b.Held = impl.MaxValue, []impl.Parcel{parcel(1, 7), parcel(1, 100), parcel(2, 101)}
	}))
	isValue(t, "up to the greatest Missed", got, ok, 2)
	isNotSent(t, "one beyond it", p, []int64{1}, parcel(1, 1))
	isNotSent(t, "one beyond it at once", mail(), []int64{1}, parcels(3)...)
	isNotSent(t, "one beyond it and others", mail(), []int64{1, 7, 8}, parcels(3)...)
	isNotSent(t, "at the limit of both", mail(), []int64{impl.MaxMember}, parcels(2)...)
	isNotSent(t, "with others", mail(), []int64{7, impl.MaxMember}, parcels(2)...)
	p, taken, missed, ok := impl.TakeFrom(mail(), ends, 0)
	isPost(t, "it begins again", p, ok, butBox(ends, func(b *impl.Box) { b.Missed = 0 }))
	isList(t, "it begins again", taken, ok)
	isValue(t, "it begins again", missed, ok, impl.MaxValue)
	p, _, ok = impl.SendAll(p, []int64{impl.MaxMember}, parcels(2))
	isPost(t, "and grows", p, ok, butBox(ends, func(b *impl.Box) {
		b.Missed, b.Held = 1, []impl.Parcel{parcel(1, 1), parcel(1, 100), parcel(2, 101)}
	}))
}

// SendAll is the same as SendTo again and again; the boxes come up to all limits together.
func TestSendingManyIsSendingEach(t *testing.T) {
	everybody := upTo(impl.MaxMember)
	for _, limit := range []int64{1, 2, 31, 63, 64} {
		for _, count := range []int{0, 1, 2, 30, 63, 64} {
			p, _ := impl.WithLimit(fullPost(), limit)
			list := parcels(count)
			slices.Reverse(list)
			want := butPost(p, func(p *impl.Post) {
				for i, b := range p.Boxes {
					held := append(b.Held, list...)
					p.Boxes[i].Held, p.Boxes[i].Missed = held[count:], b.Missed+int64(count)
				}
			})
			all, got, ok := impl.SendAll(p, everybody, list)
			isPost(t, fmt.Sprint(count, " with the limit ", limit), all, ok, want)
			isValue(t, fmt.Sprint(count, " with the limit ", limit), got, ok, int64(count*impl.MaxBoxes))
			for _, one := range list {
				p, got, ok = impl.SendTo(p, everybody, one)
				isValue(t, "each", got, ok, impl.MaxBoxes)
			}
			isPost(t, fmt.Sprint("each of ", count, " with the limit ", limit), p, true, want)
		}
	}
}

func TestTakeFrom(t *testing.T) {
	for _, b := range mail().Boxes {
		for _, count := range []int64{0, 1, 2, 3, 4, 63, impl.MaxHeld} {
			what := fmt.Sprintf("%d of %q", count, b.Token)
			n := min(int(count), len(b.Held))
			p, taken, missed, ok := impl.TakeFrom(mail(), b.Token, count)
			isPost(t, what, p, ok, butBox(b.Token, func(b *impl.Box) { b.Missed, b.Held = 0, b.Held[n:] }))
			isList(t, what, taken, ok, b.Held[:n]...)
			isValue(t, what, missed, ok, b.Missed)
		}
	}
	none := func(what string, p impl.Post, token string, count int64) {
		t.Helper()
		p, taken, missed, ok := impl.TakeFrom(p, token, count)
		isNoPost(t, what, p, ok)
		isNoList(t, what, taken, ok)
		isNothing(t, what, missed, ok)
	}
	for _, count := range []int64{-1, impl.MaxHeld + 1, impl.MaxValue, math.MinInt64, math.MaxInt64} {
		none(fmt.Sprint(count), mail(), first, count)
	}
	for _, token := range notTokens() {
		none(fmt.Sprintf("%.40q", token), mail(), token, 1)
	}
	none("no boxes", impl.Post{Limit: 3}, zeros, 0)
	none("the box is gone", butPost(mail(), func(p *impl.Post) { p.Boxes = p.Boxes[1:] }), zeros, 1)
	for name, p := range badPosts() {
		none(name, p, first, 1)
		none(name, p, ends, 0)
	}
	p, taken, missed, ok := impl.TakeFrom(fullPost(), tokenAt(3), impl.MaxHeld)
	isPost(t, "all that there may be", p, ok, butPost(fullPost(), func(p *impl.Post) { p.Boxes[3].Held = nil }))
	isList(t, "all that there may be", taken, ok, parcels(impl.MaxHeld)...)
	isValue(t, "all that there may be", missed, ok, 0)
}

// What is put back comes in front, and is taken out first if the box holds too much then.
func TestReturnTo(t *testing.T) {
	x, y, z, w := parcel(9, 1), parcel(8, 2), parcel(9, 3), parcel(7, 4)
	held := parcel(3, 9)
	for _, c := range []struct {
		token  string
		list   []impl.Parcel
		missed int64
		want   []impl.Parcel
	}{
		{zeros, nil, 0, nil}, {zeros, []impl.Parcel{x}, 0, []impl.Parcel{x}}, {zeros, []impl.Parcel{x, y, z}, 0, []impl.Parcel{x, y, z}},
		{zeros, []impl.Parcel{x, y, z, w}, 1, []impl.Parcel{y, z, w}}, {zeros, parcels(impl.MaxHeld), 61, parcels(impl.MaxHeld)[61:]},
		{second, nil, 5, []impl.Parcel{held}}, {second, []impl.Parcel{x, y}, 5, []impl.Parcel{x, y, held}}, {second, []impl.Parcel{x, y, z}, 6, []impl.Parcel{y, z, held}},
		{second, parcels(impl.MaxHeld), 67, append(parcels(impl.MaxHeld)[62:], held)},
		{first, nil, 2, mail().Boxes[1].Held}, {first, []impl.Parcel{x}, 3, mail().Boxes[1].Held}, {first, parcels(impl.MaxHeld), 66, mail().Boxes[1].Held},
		{mixed, []impl.Parcel{x, y}, impl.MaxValue, mail().Boxes[3].Held}, {ends, []impl.Parcel{x}, impl.MaxValue, append([]impl.Parcel{x}, mail().Boxes[4].Held...)},
	} {
		p, ok := impl.ReturnTo(mail(), c.token, c.list)
		isPost(t, fmt.Sprintf("%q", fmt.Sprint(c)), p, ok, butBox(c.token, func(b *impl.Box) { b.Missed, b.Held = c.missed, c.want }))
	}
	p, ok := impl.ReturnTo(fullPost(), tokenAt(7), parcels(impl.MaxHeld))
	isPost(t, "twice as much as there may be", p, ok, butPost(fullPost(), func(p *impl.Post) { p.Boxes[7].Missed = impl.MaxHeld }))
	for token, count := range map[string]int{mixed: 3, ends: 2} {
		p, ok := impl.ReturnTo(mail(), token, parcels(count))
		isNoPost(t, "beyond the greatest Missed", p, ok)
	}
	for _, list := range notParcelLists() {
		p, ok := impl.ReturnTo(mail(), zeros, list)
		isNoPost(t, fmt.Sprintf("%.80v", list), p, ok)
		p, ok = impl.ReturnTo(mail(), first, list)
		isNoPost(t, fmt.Sprintf("%.80v in front of others", list), p, ok)
	}
	for _, token := range notTokens() {
		p, ok := impl.ReturnTo(mail(), token, []impl.Parcel{x})
		isNoPost(t, fmt.Sprintf("%.40q", token), p, ok)
	}
	for name, p := range badPosts() {
		p, ok := impl.ReturnTo(p, first, nil)
		isNoPost(t, name, p, ok)
	}
}

// What was taken can be put back if nothing has come since; only Missed stays at 0.
func TestWhatIsTakenComesBack(t *testing.T) {
	for _, b := range mail().Boxes {
		for _, count := range []int64{0, 1, 2, 3, impl.MaxHeld} {
			p, taken, _, _ := impl.TakeFrom(mail(), b.Token, count)
			p, ok := impl.ReturnTo(p, b.Token, taken)
			isPost(t, fmt.Sprintf("%d of %q", count, b.Token), p, ok, butBox(b.Token, func(b *impl.Box) { b.Missed = 0 }))
		}
	}
}

func TestLoadsOf(t *testing.T) {
	loads, ok := impl.LoadsOf(mail())
	isList(t, "mail", loads, ok, 0, 3, 1, 3, 2)
	loads, ok = impl.LoadsOf(impl.Post{Limit: 3})
	isList(t, "no boxes", loads, ok)
	loads, ok = impl.LoadsOf(fullPost())
	isList(t, "all that there may be", loads, ok, slices.Repeat([]int64{impl.MaxHeld}, impl.MaxBoxes)...)
	for name, p := range badPosts() {
		loads, ok := impl.LoadsOf(p)
		isNoList(t, name, loads, ok)
	}
}

func TestWithoutRoom(t *testing.T) {
	for room, held := range map[int64][][]impl.Parcel{
		1:            {nil, {parcel(2, 1)}, {parcel(3, 9)}, {parcel(2, 2), parcel(2, 2)}, {parcel(1000, 1000000)}},
		2:            {nil, {parcel(1, 1), parcel(1, 2)}, {parcel(3, 9)}, {parcel(1, 7)}, {parcel(1000, 1000000), parcel(1, 1)}},
		3:            {nil, {parcel(1, 1), parcel(1, 2), parcel(2, 1)}, nil, {parcel(2, 2), parcel(2, 2), parcel(1, 7)}, {parcel(1000, 1000000), parcel(1, 1)}},
		impl.MaxRoom: {nil, {parcel(1, 1), parcel(1, 2), parcel(2, 1)}, {parcel(3, 9)}, {parcel(2, 2), parcel(2, 2), parcel(1, 7)}, {parcel(1, 1)}},
	} {
		want := butPost(mail(), func(p *impl.Post) {
			for i := range p.Boxes {
				p.Boxes[i].Held = held[i]
			}
		})
		p, ok := impl.WithoutRoom(mail(), room)
		isPost(t, fmt.Sprint("without ", room), p, ok, want)
		p, ok = impl.WithoutRoom(p, room)
		isPost(t, fmt.Sprint("without ", room, " again"), p, ok, want)
	}
	for _, room := range []int64{4, 999} {
		p, ok := impl.WithoutRoom(mail(), room)
		isPost(t, fmt.Sprint("without ", room), p, ok, mail())
	}
	for _, room := range []int64{0, -1, impl.MaxRoom + 1, impl.MaxTick, math.MinInt64, math.MaxInt64} {
		p, ok := impl.WithoutRoom(mail(), room)
		isNoPost(t, fmt.Sprint("without ", room), p, ok)
	}
	p, ok := impl.WithoutRoom(impl.Post{Limit: 3}, 1)
	isPost(t, "no boxes", p, ok, impl.Post{Limit: 3})
	for name, p := range badPosts() {
		p, ok := impl.WithoutRoom(p, 4)
		isNoPost(t, name, p, ok)
	}
}

func TestWithLimit(t *testing.T) {
	for _, limit := range []int64{3, 4, 63, impl.MaxHeld} {
		p, ok := impl.WithLimit(mail(), limit)
		isPost(t, fmt.Sprint("the limit ", limit), p, ok, butPost(mail(), func(p *impl.Post) { p.Limit = limit }))
	}
	less := butPost(mail(), func(p *impl.Post) {
		p.Limit = 2
		p.Boxes[1].Missed, p.Boxes[1].Held = 3, []impl.Parcel{parcel(1, 2), parcel(2, 1)}
		p.Boxes[3].Missed, p.Boxes[3].Held = impl.MaxValue-1, []impl.Parcel{parcel(2, 2), parcel(1, 7)}
	})
	p, ok := impl.WithLimit(mail(), 2)
	isPost(t, "one less", p, ok, less)
	p, ok = impl.WithLimit(p, 3)
	isPost(t, "what was missed stays away", p, ok, butPost(less, func(p *impl.Post) { p.Limit = 3 }))
	noEnds := butPost(mail(), func(p *impl.Post) { p.Boxes = p.Boxes[:4] })
	p, ok = impl.WithLimit(noEnds, 1)
	isPost(t, "two less", p, ok, butPost(noEnds, func(p *impl.Post) {
		p.Limit = 1
		p.Boxes[1].Missed, p.Boxes[1].Held = 4, []impl.Parcel{parcel(2, 1)}
		p.Boxes[3].Missed, p.Boxes[3].Held = impl.MaxValue, []impl.Parcel{parcel(1, 7)}
	}))
	p, ok = impl.WithLimit(mail(), 1)
	isNoPost(t, "beyond the greatest Missed", p, ok)
	for _, limit := range []int64{0, -1, impl.MaxHeld + 1, impl.MaxValue, math.MinInt64, math.MinInt64 + 3, math.MaxInt64} {
		p, ok := impl.WithLimit(mail(), limit)
		isNoPost(t, fmt.Sprint("the limit ", limit), p, ok)
		p, ok = impl.WithLimit(impl.Post{Limit: 3}, limit)
		isNoPost(t, fmt.Sprint("the limit ", limit, " of no boxes"), p, ok)
	}
	p, ok = impl.WithLimit(impl.Post{Limit: impl.MaxHeld}, 1)
	isPost(t, "no boxes", p, ok, impl.Post{Limit: 1})
	p, ok = impl.WithLimit(fullPost(), 1)
	isPost(t, "all but the last ones", p, ok, butPost(fullPost(), func(p *impl.Post) {
		p.Limit = 1
		for i := range p.Boxes {
			p.Boxes[i].Missed, p.Boxes[i].Held = 63, p.Boxes[i].Held[63:]
		}
	}))
	for name, p := range badPosts() {
		for _, limit := range []int64{3, impl.MaxHeld} {
			p, ok := impl.WithLimit(p, limit)
			isNoPost(t, name, p, ok)
		}
	}
}

func TestRoomsIn(t *testing.T) {
	for _, c := range []struct {
		list []impl.Parcel
		want []int64
	}{
		{nil, nil}, {[]impl.Parcel{parcel(impl.MaxRoom, impl.MaxTick)}, []int64{impl.MaxRoom}}, {[]impl.Parcel{parcel(3, 1), parcel(1, 2), parcel(3, 1), parcel(2, 9)}, upTo(3)},
		{parcels(impl.MaxHeld), upTo(5)}, {slices.Repeat([]impl.Parcel{parcel(7, 7)}, impl.MaxHeld), []int64{7}},
	} {
		rooms, ok := impl.RoomsIn(c.list)
		isList(t, fmt.Sprint(c.list), rooms, ok, c.want...)
	}
	var other []impl.Parcel
	for _, room := range upTo(impl.MaxHeld) {
		other = append(other, parcel(impl.MaxHeld+1-room, room))
	}
	rooms, ok := impl.RoomsIn(other)
	isList(t, "64 rooms", rooms, ok, upTo(impl.MaxHeld)...)
	for _, list := range notParcelLists() {
		rooms, ok := impl.RoomsIn(list)
		isNoList(t, fmt.Sprintf("%.80v", list), rooms, ok)
	}
}

// fairText writes parcels as their rooms and Numbers.
func fairText(list []impl.Parcel) string {
	words := make([]string, len(list))
	for i, p := range list {
		words[i] = fmt.Sprint(p.Room, ".", p.Number)
	}
	return strings.Join(words, " ")
}

func TestFairOrder(t *testing.T) {
	list := []impl.Parcel{parcel(5, 1), parcel(2, 9), parcel(5, 3), parcel(2, 9), parcel(5, 2), parcel(9, 4), parcel(2, 8), parcel(5, 7)}
	for last, want := range map[int64]string{
		0: "2.9 5.1 9.4 2.9 5.3 2.8 5.2 5.7", 1: "2.9 5.1 9.4 2.9 5.3 2.8 5.2 5.7", 2: "5.1 9.4 2.9 5.3 2.9 5.2 2.8 5.7",
		3: "5.1 9.4 2.9 5.3 2.9 5.2 2.8 5.7", 4: "5.1 9.4 2.9 5.3 2.9 5.2 2.8 5.7", 5: "9.4 2.9 5.1 2.9 5.3 2.8 5.2 5.7", 8: "9.4 2.9 5.1 2.9 5.3 2.8 5.2 5.7",
		9: "2.9 5.1 9.4 2.9 5.3 2.8 5.2 5.7", 10: "2.9 5.1 9.4 2.9 5.3 2.8 5.2 5.7", impl.MaxRoom: "2.9 5.1 9.4 2.9 5.3 2.8 5.2 5.7",
	} {
		fair, ok := impl.FairOrder(list, last)
		isValue(t, fmt.Sprint("behind ", last), fairText(fair), ok, want)
	}
	for _, last := range []int64{0, 1, 7, impl.MaxRoom} {
		fair, ok := impl.FairOrder(nil, last)
		isList(t, "nothing", fair, ok)
		one := slices.Repeat([]impl.Parcel{parcel(7, 3), parcel(7, 2)}, impl.MaxHeld/2)
		fair, ok = impl.FairOrder(one, last)
		isList(t, "one room", fair, ok, one...)
		fair, ok = impl.FairOrder([]impl.Parcel{parcel(impl.MaxRoom, 1), parcel(1, 1)}, last)
		want := []impl.Parcel{parcel(1, 1), parcel(impl.MaxRoom, 1)}
		if last == 1 || last == 7 {
			slices.Reverse(want)
		}
		isList(t, fmt.Sprint("the first and the last room behind ", last), fair, ok, want...)
	}
	for _, last := range []int64{-1, impl.MaxRoom + 1, math.MinInt64, math.MaxInt64} {
		fair, ok := impl.FairOrder(list, last)
		isNoList(t, fmt.Sprint("behind ", last), fair, ok)
		fair, ok = impl.FairOrder(nil, last)
		isNoList(t, fmt.Sprint("nothing behind ", last), fair, ok)
	}
	for _, bad := range notParcelLists() {
		fair, ok := impl.FairOrder(bad, 0)
		isNoList(t, fmt.Sprintf("%.80v", bad), fair, ok)
	}
}

// inTurns orders parcels without the program: the parcel k of a room is in the round k, or in the next one if the first round begins behind the room.
func inTurns(list []impl.Parcel, last int64) []impl.Parcel {
	type turn struct{ round, room, place int64 }
	seen := map[int64]int64{}
	var turns []turn
	for i, p := range list {
		round := seen[p.Room]
		seen[p.Room]++
		if p.Room <= last {
			round++
		}
		turns = append(turns, turn{round, p.Room, int64(i)})
	}
	slices.SortFunc(turns, func(a, b turn) int { return slices.Compare([]int64{a.round, a.room}, []int64{b.round, b.room}) })
	var fair []impl.Parcel
	for _, one := range turns {
		fair = append(fair, list[one.place])
	}
	return fair
}

// Promise 5: turns are fair: no room comes twice while another one waits.
func TestTurnsAreFair(t *testing.T) {
	rounds := rand.New(rand.NewSource(4))
	for range 3000 {
		rooms := 1 + rounds.Int63n(12)
		if rounds.Intn(9) == 0 {
			rooms = impl.MaxRoom
		}
		list := make([]impl.Parcel, rounds.Intn(impl.MaxHeld+1))
		for i := range list {
			// Some rooms have more parcels than others.
			list[i] = parcel(1+min(rounds.Int63n(rooms), rounds.Int63n(rooms)), 1+rounds.Int63n(40))
		}
		last := rounds.Int63n(rooms + 1)
		fair, ok := impl.FairOrder(list, last)
		isValue(t, fmt.Sprint(list, " behind ", last), fairText(fair), ok, fairText(inTurns(list, last)))
		isFair(t, fair)
	}
}

// isFair fails the test unless all rooms that wait when a room comes again have come since it came before.
func isFair(t *testing.T, fair []impl.Parcel) {
	t.Helper()
	for i, p := range fair {
		next := slices.IndexFunc(fair[i+1:], func(other impl.Parcel) bool { return other.Room == p.Room })
		if next < 0 {
			continue
		}
		since, waiting := fair[i:i+1+next], fair[i+1+next:]
		for _, other := range waiting {
			if !slices.ContainsFunc(since, func(p impl.Parcel) bool { return p.Room == other.Room }) {
				t.Fatalf("%v: %d comes twice while %d waits", fair, p.Room, other.Room)
			}
		}
	}
}

// A mover is one of the functions that change a post, with all that it needs.
type mover struct {
	name    string
	token   string
	number  int64
	members []int64
	list    []impl.Parcel
}

// run returns the post behind a function, and what it returns besides.
func (m mover) run(p impl.Post) (impl.Post, string, bool) {
	switch m.name {
	case "AddBox":
		p, ok := impl.AddBox(p, m.token, m.number)
		return p, "", ok
	case "DropBox":
		p, ok := impl.DropBox(p, m.token)
		return p, "", ok
	case "SendTo":
		p, got, ok := impl.SendTo(p, m.members, m.list[0])
		return p, fmt.Sprint(got), ok
	case "SendAll":
		p, got, ok := impl.SendAll(p, m.members, m.list)
		return p, fmt.Sprint(got), ok
	case "TakeFrom":
		p, taken, missed, ok := impl.TakeFrom(p, m.token, m.number)
		return p, fmt.Sprint(taken, missed), ok
	case "ReturnTo":
		p, ok := impl.ReturnTo(p, m.token, m.list)
		return p, "", ok
	case "WithoutRoom":
		p, ok := impl.WithoutRoom(p, m.number)
		return p, "", ok
	}
	p, ok := impl.WithLimit(p, m.number)
	return p, "", ok
}

// expected does the same without the program.
func (m mover) expected(before impl.Post) (impl.Post, string, bool) {
	p, told, ok := copyOfPost(before), "", true
	here := boxIn(&p, m.token)
	there := here.Token != ""
	switch m.name {
	case "AddBox":
		ok = !there && len(m.token) == 16
		p.Boxes = append(p.Boxes, box(m.token, m.number, 0))
		slices.SortFunc(p.Boxes, func(a, b impl.Box) int { return strings.Compare(a.Token, b.Token) })
	case "DropBox":
		ok = there
		p.Boxes = slices.DeleteFunc(p.Boxes, func(b impl.Box) bool { return b.Token == m.token })
	case "SendTo", "SendAll":
		got := 0
		for _, one := range m.list {
			for i, b := range p.Boxes {
				if slices.Contains(m.members, b.Member) {
					p.Boxes[i].Held = append(b.Held, one)
					got++
				}
			}
		}
		told = fmt.Sprint(got)
	case "TakeFrom":
		n := max(min(int(m.number), len(here.Held)), 0)
		ok = there && m.number >= 0 && m.number <= 64
		told = fmt.Sprint(here.Held[:n], here.Missed)
		here.Held, here.Missed = here.Held[n:], 0
	case "ReturnTo":
		ok = there
		here.Held = append(slices.Clone(m.list), here.Held...)
	case "WithoutRoom":
		ok = m.number > 0 && m.number <= 1000
		for i, b := range p.Boxes {
			p.Boxes[i].Held = slices.DeleteFunc(b.Held, func(p impl.Parcel) bool { return p.Room == m.number })
		}
	default:
		p.Limit = m.number
	}
	ok = ok && p.Limit >= 1 && p.Limit <= 64 && len(p.Boxes) <= 32
	for i, b := range p.Boxes {
		for ok && len(b.Held) > int(p.Limit) {
			b.Held, b.Missed = b.Held[1:], b.Missed+1
		}
		ok = ok && b.Member >= 1 && b.Member <= 1000 && b.Missed <= 1000000000
		p.Boxes[i] = b
	}
	return p, told, ok
}

// aMover chooses a function and what it needs, most often so that it succeeds.
func aMover(rounds *rand.Rand, p impl.Post, room int64) mover {
	names := []string{"AddBox", "AddBox", "DropBox", "SendTo", "SendTo", "SendTo", "SendAll", "SendAll", "TakeFrom", "TakeFrom", "ReturnTo", "ReturnTo", "WithoutRoom", "WithLimit"}
	m := mover{name: names[rounds.Intn(len(names))], token: tokenAt(rounds.Intn(40)), number: rounds.Int63n(9) - 1}
	if len(p.Boxes) > 0 && m.name != "AddBox" && rounds.Intn(5) > 0 {
		m.token = p.Boxes[rounds.Intn(len(p.Boxes))].Token
	}
	if rounds.Intn(9) == 0 {
		m.token = m.token[:15]
	}
	if m.name == "WithLimit" && rounds.Intn(2) > 0 {
		m.number = rounds.Int63n(impl.MaxHeld + 2)
	}
	for _, member := range upTo(7) {
		if rounds.Intn(3) == 0 {
			m.members = append(m.members, member)
		}
	}
	count := 1
	if m.name != "SendTo" {
		count = rounds.Intn(6)
	}
	if m.name != "SendTo" && rounds.Intn(9) == 0 {
		count = rounds.Intn(impl.MaxHeld + 1)
	}
	for range count {
		m.list = append(m.list, parcel(1+rounds.Int63n(room), 1+rounds.Int63n(50)))
	}
	return m
}

// Promise 5: in long runs, a box never holds more than it may, and is told how much it has missed.
func TestRunsOfPosts(t *testing.T) {
	done, missed := map[string]int{}, 0
	for seed := range int64(60) {
		rounds := rand.New(rand.NewSource(seed))
		p, _ := impl.NewPost(1 + rounds.Int63n(8))
		if seed%10 == 9 {
			p = fullPost()
		}
		for range 500 {
			m := aMover(rounds, p, 1+seed%7)
			after, told, ok := m.run(p)
			want, wantTold, able := m.expected(p)
			if ok != able || ok && (postText(after) != postText(want) || told != wantTold) {
				t.Fatalf("%+q: %s becomes %s %s %v, want %s %s %v", m.name, postText(p), postText(after), told, ok, postText(want), wantTold, able)
			}
			if !ok {
				isNoPost(t, m.name, after, ok)
				continue
			}
			for _, b := range after.Boxes {
				isBool(t, m.name+": a box holds no more than it may", int64(len(b.Held)) <= after.Limit && len(b.Held) <= impl.MaxHeld, true)
				missed = max(missed, int(b.Missed))
			}
			isBool(t, m.name+": the post is valid", impl.ValidPost(after), true)
			p = after
			done[m.name]++
		}
	}
	isBool(t, fmt.Sprint("all is done often enough: ", done, missed), len(done) == 8 && slices.Min(countsIn(done)) > 300 && missed > 50, true)
}

func countsIn(done map[string]int) []int {
	var counts []int
	for _, n := range done {
		counts = append(counts, n)
	}
	return counts
}

// Promise 5: all that was sent to a box is told: it was taken, is held, or was missed.
func TestNothingIsLostUntold(t *testing.T) {
	for seed := range int64(40) {
		rounds := rand.New(rand.NewSource(seed))
		p := impl.Post{Limit: 1 + seed%9, Boxes: []impl.Box{box(zeros, 1, 0), box(first, 2, 0), box(ends, 1, 0)}}
		var sent, told [3]int64
		for range 300 {
			i := rounds.Intn(3)
			switch token := p.Boxes[i].Token; rounds.Intn(5) {
			case 0:
				after, taken, missed, _ := impl.TakeFrom(p, token, rounds.Int63n(5))
				told[i] += missed + int64(len(taken))
				if rounds.Intn(2) > 0 {
					after, _ = impl.ReturnTo(after, token, taken)
					told[i] -= int64(len(taken))
				}
				p = after
			case 1:
				p, _ = impl.WithLimit(p, 1+rounds.Int63n(9))
			default:
				list := parcels(rounds.Intn(4))
				members := [][]int64{{1}, {2}, {1, 2}, {3}}[rounds.Intn(4)]
				before := sent
				for i, b := range p.Boxes {
					if slices.Contains(members, b.Member) {
						sent[i] += int64(len(list))
					}
				}
				after, got, ok := impl.SendAll(p, members, list)
				isValue(t, "how many got it", got, ok, sent[0]+sent[1]+sent[2]-before[0]-before[1]-before[2])
				p = after
			}
			for i, b := range p.Boxes {
				isBool(t, fmt.Sprintf("what came into %q is told", b.Token), sent[i] == told[i]+b.Missed+int64(len(b.Held)), true)
			}
		}
	}
}
