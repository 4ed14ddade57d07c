package tests

import (
	"fmt"
	"maps"
	"math"
	"math/rand"
	"reflect"
	"slices"
	"strings"
	"testing"

	"loop.example/g01202/impl"
)

// A call is a function with all its arguments; it returns all results.
type call struct {
	name string
	run  func() []any
}

func oddNumbers() []int64 {
	return []int64{
		math.MinInt64, math.MinInt64 + 1, -impl.MaxValue - 1, -impl.MaxValue, -1, 0, 1, 2, 7, impl.MaxMember, impl.MaxMember + 1,
		impl.CheckSize - 1, impl.CheckSize, impl.MaxTick, impl.MaxTick + 1, impl.MaxValue, impl.MaxValue + 1, math.MaxInt64 - 1, math.MaxInt64,
	}
}

func oddStrings() []string {
	return []string{
		"", "a", "room", "Hi, room 7!", "@7 and @70", "none", "-0", "-7", "1,2,3", "617a", "61z", "\x00", "\xff\xfe", "a\n", "é@7",
		strings.Repeat("a", 16), strings.Repeat("\x00", 32), strings.Repeat("x", impl.MaxText), strings.Repeat("@", impl.MaxText+1),
		strings.Repeat("1,", impl.MaxItems), strings.Repeat("ab", impl.MaxBytes), strings.Repeat("\x80", impl.MaxBytes+1), strings.Repeat("9", 100000),
	}
}

func oddLists() [][]int64 {
	return [][]int64{
		nil, {}, {0}, {1}, {1, 3}, {2, 3}, {3, 1}, {2, 2}, {math.MinInt64}, {math.MaxInt64, math.MinInt64}, {impl.MaxMember, impl.MaxMember + 1},
		upTo(impl.MaxItems), upTo(impl.MaxItems + 1), upTo(impl.MaxMember), upTo(20000),
	}
}

// callsOfNumbers, callsOfStrings and callsOfLists call every function of chapter 1 with all kinds of arguments.
func callsOfNumbers() []call {
	var calls []call
	for _, n := range oddNumbers() {
		calls = append(calls, call{"Decimal", func() []any { return []any{impl.Decimal(n)} }})
		for _, m := range oddNumbers() {
			calls = append(calls, call{"TokenOf", func() []any { s, ok := impl.TokenOf(n, m); return []any{s, ok} }})
		}
		for _, s := range oddStrings() {
			calls = append(calls, call{"CheckOf", func() []any { c, ok := impl.CheckOf(n, s); return []any{c, ok} }})
		}
	}
	return calls
}

func callsOfStrings() []call {
	var calls []call
	for _, s := range oddStrings() {
		calls = append(calls,
			call{"IsName", func() []any { return []any{impl.IsName(s)} }},
			call{"IsText", func() []any { return []any{impl.IsText(s)} }},
			call{"IsToken", func() []any { return []any{impl.IsToken(s)} }},
			call{"IsDigest", func() []any { return []any{impl.IsDigest(s)} }},
			call{"ReadDecimal", func() []any { n, ok := impl.ReadDecimal(s); return []any{n, ok} }},
			call{"ReadList", func() []any { list, ok := impl.ReadList(s); return []any{list, ok} }},
			call{"HexText", func() []any { text, ok := impl.HexText(s); return []any{text, ok} }},
			call{"ReadHex", func() []any { b, ok := impl.ReadHex(s); return []any{b, ok} }},
			call{"DigestOf", func() []any { d, ok := impl.DigestOf(s); return []any{d, ok} }},
			call{"WordsOf", func() []any { words, ok := impl.WordsOf(s); return []any{words, ok} }},
			call{"MentionsOf", func() []any { list, ok := impl.MentionsOf(s); return []any{list, ok} }})
		for _, parts := range [][]string{nil, {}, {"a", "b"}, oddStrings(), make([]string, impl.MaxItems+1)} {
			calls = append(calls, call{"ChainOf", func() []any { chain, ok := impl.ChainOf(s, parts); return []any{chain, ok} }})
		}
	}
	return calls
}

func callsOfLists() []call {
	var calls []call
	for _, a := range oddLists() {
		calls = append(calls,
			call{"ListText", func() []any { s, ok := impl.ListText(a); return []any{s, ok} }},
			call{"IsMembers", func() []any { return []any{impl.IsMembers(a)} }})
		for _, b := range oddLists() {
			calls = append(calls,
				call{"JoinSets", func() []any { s, ok := impl.JoinSets(a, b); return []any{s, ok} }},
				call{"LessSet", func() []any { s, ok := impl.LessSet(a, b); return []any{s, ok} }})
		}
	}
	return calls
}

func oddRooms() []impl.Room {
	huge := impl.Room{Members: make([]impl.Member, 20000), Invites: make([]impl.Invite, 20000), Bans: make([]impl.Ban, 20000)}
	for i := range huge.Members {
		id := int64(i) + 1
		huge.Members[i], huge.Invites[i], huge.Bans[i] = member(id, impl.RoleOwner, 0, 0), invite(id, 1, 0), ban(id, 0)
	}
	odd := impl.Room{Members: []impl.Member{member(math.MinInt64, math.MaxInt64, -1, -1), member(7, -1, math.MaxInt64, math.MinInt64)}}
	alone, _ := impl.NewRoom(7, 1, true)
	return []impl.Room{
		{}, {Open: true}, {Invites: []impl.Invite{{}}, Bans: []impl.Ban{{}}}, odd, huge, alone, houseOf(), fullRoom(),
		with(houseOf(), func(r *impl.Room) { r.Open = true }), with(houseOf(), func(r *impl.Room) { r.Members = r.Members[2:] }),
		with(houseOf(), func(r *impl.Room) { r.Members[7].Quiet = math.MaxInt64 }), with(houseOf(), func(r *impl.Room) { r.Bans[0].Id = 1 }),
	}
}

// roomNumbers are those with which the functions with rooms succeed, and odd ones.
func roomNumbers() []int64 {
	return slices.Concat([]int64{0, 1, 2, 3, 7, 11, 21, 22, 31, 32, 40, 41, 50, 51, 70, 100}, oddNumbers())
}

// callsOfRooms calls every function of chapter 2; of the numbers, there are too many to take them all together.
func callsOfRooms() []call {
	rounds := rand.New(rand.NewSource(5))
	pick := func() int64 { return roomNumbers()[rounds.Intn(len(roomNumbers()))] }
	var calls []call
	for _, n := range oddNumbers() {
		for _, m := range oddNumbers() {
			calls = append(calls,
				call{"RoleMay", func() []any { return []any{impl.RoleMay(n, m)} }},
				call{"NewRoom", func() []any { r, ok := impl.NewRoom(n, m, n%2 == 0); return []any{r, ok} }})
		}
	}
	for _, r := range oddRooms() {
		calls = append(calls,
			call{"ValidRoom", func() []any { return []any{impl.ValidRoom(r)} }},
			call{"RanksOf", func() []any { list, ok := impl.RanksOf(r); return []any{list, ok} }},
			call{"CountRoles", func() []any { list, ok := impl.CountRoles(r); return []any{list, ok} }})
		for _, other := range oddRooms() {
			calls = append(calls, call{"SameRoom", func() []any { return []any{impl.SameRoom(r, other)} }})
		}
		for range 200 {
			by, id, n, at := pick(), pick(), pick(), pick()
			calls = append(calls,
				call{"RoleOf", func() []any { role, ok := impl.RoleOf(r, id); return []any{role, ok} }},
				call{"IsAllowed", func() []any { return []any{impl.IsAllowed(r, id, n, at)} }})
			for _, s := range steps() {
				calls = append(calls, call{s.name, func() []any { after, ok := s.run(r, by, id, n, at); return []any{after, ok} }})
			}
		}
	}
	return calls
}

func oddLogs() []impl.Log {
	huge := impl.Log{Next: impl.MaxValue, Messages: make([]impl.Message, 20000)}
	for i := range huge.Messages {
		huge.Messages[i] = said(int64(i)+1, 7, 5, "x", int64(i))
	}
	loud := but(longLog(), func(l *impl.Log) {
		for i := range l.Messages {
			l.Messages[i].Text, l.Messages[i].Likes = strings.Repeat("@", impl.MaxText), upTo(6)
		}
	})
	logs := []impl.Log{
		talk(), longLog(), huge, loud, {Next: 1}, {Next: 13}, {Next: math.MinInt64}, {Next: math.MaxInt64, Messages: talk().Messages},
		{Next: impl.MaxValue}, {Next: impl.MaxValue, Messages: talk().Messages}, {Next: impl.MaxValue - 1, Messages: talk().Messages},
		{Next: 5, Messages: []impl.Message{{Number: 1, Sender: 1, Likes: upTo(20000)}}}, {Next: 5, Messages: []impl.Message{{Number: 1, Sender: 1, Text: strings.Repeat("x", 100000)}}},
		{Next: 5, Messages: []impl.Message{{Number: math.MaxInt64, Sender: math.MinInt64, At: -1, Edits: math.MaxInt64, Reply: math.MinInt64, Likes: []int64{math.MinInt64}}}},
		but(talk(), func(l *impl.Log) { at(l, 13).Edits = impl.MaxValue }),
	}
	bad := badLogs()
	for _, name := range slices.Sorted(maps.Keys(bad)) {
		logs = append(logs, bad[name])
	}
	return logs
}

// logNumbers are those with which the functions with logs succeed, and odd ones.
func logNumbers() []int64 {
	return slices.Concat([]int64{0, 2, 2, 3, 5, 6, 7, 7, 7, 8, 9, 9, 10, 12, 13, 20, 999, impl.MaxMember}, oddNumbers())
}

func asksOf(l impl.Log, number, since int64) []call {
	return []call{
		{"MessageOf", func() []any { m, ok := impl.MessageOf(l, number); return []any{m, ok} }},
		{"AnswersTo", func() []any { list, ok := impl.AnswersTo(l, number); return []any{list, ok} }},
		{"ThreadOf", func() []any { list, ok := impl.ThreadOf(l, number); return []any{list, ok} }},
		{"RootOf", func() []any { root, ok := impl.RootOf(l, number); return []any{root, ok} }},
		{"SeenBy", func() []any { list, ok := impl.SeenBy(l, number, since); return []any{list, ok} }},
		{"MentionsIn", func() []any { list, ok := impl.MentionsIn(l, number); return []any{list, ok} }},
	}
}

func changesOf(l impl.Log, number, member, tick int64, text string) []call {
	return []call{
		{"PostMessage", func() []any {
			after, n, ok := impl.PostMessage(l, member, tick, text, number)
			return []any{after, n, ok}
		}},
		{"EditMessage", func() []any { after, ok := impl.EditMessage(l, number, member, text); return []any{after, ok} }},
		{"TakeBack", func() []any { after, ok := impl.TakeBack(l, number, member); return []any{after, ok} }},
		{"LikeMessage", func() []any { after, ok := impl.LikeMessage(l, number, member); return []any{after, ok} }},
		{"UnlikeMessage", func() []any { after, ok := impl.UnlikeMessage(l, number, member); return []any{after, ok} }},
	}
}

// callsOfLogs calls every function of chapter 3, with a choice of the numbers and texts.
func callsOfLogs() []call {
	rounds := rand.New(rand.NewSource(7))
	pick := func() int64 { return logNumbers()[rounds.Intn(len(logNumbers()))] }
	var calls []call
	for _, l := range oddLogs() {
		calls = append(calls,
			call{"ValidLog", func() []any { return []any{impl.ValidLog(l)} }},
			call{"CountsOf", func() []any { counts, ok := impl.CountsOf(l); return []any{counts, ok} }},
			call{"DigestOfLog", func() []any { digest, ok := impl.DigestOfLog(l); return []any{digest, ok} }})
		for _, other := range oddLogs() {
			calls = append(calls, call{"SameLog", func() []any { return []any{impl.SameLog(l, other)} }})
		}
		for _, m := range l.Messages[:min(len(l.Messages), 50)] {
			calls = append(calls, call{"ValidMessage", func() []any { return []any{impl.ValidMessage(m)} }})
		}
		for range 200 {
			text := oddStrings()[rounds.Intn(len(oddStrings()))]
			calls = append(calls, asksOf(l, pick(), pick())...)
			calls = append(calls, changesOf(l, pick(), pick(), pick(), text)...)
		}
	}
	return calls
}

func oddPosts() []impl.Post {
	huge := impl.Post{Limit: impl.MaxHeld, Boxes: make([]impl.Box, 20000)}
	for i := range huge.Boxes {
		huge.Boxes[i] = box(tokenAt(i), 1, 0)
	}
	posts := []impl.Post{
		mail(), fullPost(), huge, {Limit: 1}, {Limit: 3}, {Limit: math.MinInt64}, {Limit: math.MaxInt64, Boxes: mail().Boxes},
		{Limit: math.MinInt64, Boxes: []impl.Box{box("", math.MinInt64, math.MaxInt64, parcel(math.MinInt64, math.MaxInt64))}},
		{Limit: 5, Boxes: []impl.Box{box(first, 1, 0, parcels(20000)...)}}, {Limit: 5, Boxes: []impl.Box{box(strings.Repeat("x", 100000), 1, 0)}},
		butBox(first, func(b *impl.Box) { b.Missed = math.MaxInt64 }), butPost(mail(), func(p *impl.Post) { p.Limit = impl.MaxHeld }),
	}
	bad := badPosts()
	for _, name := range slices.Sorted(maps.Keys(bad)) {
		posts = append(posts, bad[name])
	}
	return posts
}

// postTokens are those of the boxes of mail, of fullPost, and strings that are none.
func postTokens() []string {
	return slices.Concat([]string{zeros, first, second, mixed, ends, tokenAt(0), tokenAt(31), tokenAt(32)}, notTokens())
}

// postNumbers are those with which the functions with posts succeed, and odd ones.
func postNumbers() []int64 {
	return slices.Concat([]int64{0, 1, 1, 1, 2, 2, 3, 3, 7, 8, 63, impl.MaxHeld, impl.MaxHeld + 1, impl.MaxRoom}, oddNumbers())
}

func oddParcelLists() [][]impl.Parcel {
	return append(notParcelLists(), nil, []impl.Parcel{}, parcels(1), parcels(2), parcels(3), parcels(30), parcels(impl.MaxHeld))
}

func oddSets() [][]int64 {
	return slices.Concat(notSets(), oddLists(), [][]int64{{7}, {8}, {7, 8}, {1, 7, 8}, {1, 7, 8, impl.MaxMember}})
}

// movesOf sends the first one of the parcels by SendTo, and what is no parcel if there is none.
func movesOf(p impl.Post, token string, number int64, members []int64, list []impl.Parcel) []call {
	var one impl.Parcel
	if len(list) > 0 {
		one = list[0]
	}
	return []call{
		{"AddBox", func() []any { after, ok := impl.AddBox(p, token, number); return []any{after, ok} }},
		{"DropBox", func() []any { after, ok := impl.DropBox(p, token); return []any{after, ok} }},
		{"SendTo", func() []any { after, got, ok := impl.SendTo(p, members, one); return []any{after, got, ok} }},
		{"SendAll", func() []any { after, got, ok := impl.SendAll(p, members, list); return []any{after, got, ok} }},
		{"TakeFrom", func() []any {
			after, taken, missed, ok := impl.TakeFrom(p, token, number)
			return []any{after, taken, missed, ok}
		}},
		{"ReturnTo", func() []any { after, ok := impl.ReturnTo(p, token, list); return []any{after, ok} }},
		{"WithoutRoom", func() []any { after, ok := impl.WithoutRoom(p, number); return []any{after, ok} }},
		{"WithLimit", func() []any { after, ok := impl.WithLimit(p, number); return []any{after, ok} }},
		{"TokensOf", func() []any { tokens, ok := impl.TokensOf(p, number); return []any{tokens, ok} }},
		{"LoadsOf", func() []any { loads, ok := impl.LoadsOf(p); return []any{loads, ok} }},
	}
}

// callsOfPosts calls every function of chapter 4, with a choice of tokens, numbers, sets and parcels.
func callsOfPosts() []call {
	rounds := rand.New(rand.NewSource(9))
	pick := func() int64 { return postNumbers()[rounds.Intn(len(postNumbers()))] }
	var calls []call
	for _, n := range oddNumbers() {
		calls = append(calls, call{"NewPost", func() []any { p, ok := impl.NewPost(n); return []any{p, ok} }})
	}
	for _, list := range oddParcelLists() {
		calls = append(calls, call{"RoomsIn", func() []any { rooms, ok := impl.RoomsIn(list); return []any{rooms, ok} }})
		for _, last := range postNumbers() {
			calls = append(calls, call{"FairOrder", func() []any { fair, ok := impl.FairOrder(list, last); return []any{fair, ok} }})
		}
	}
	lists, sets := oddParcelLists(), oddSets()
	for _, p := range oddPosts() {
		calls = append(calls, call{"ValidPost", func() []any { return []any{impl.ValidPost(p)} }})
		for _, other := range oddPosts() {
			calls = append(calls, call{"SamePost", func() []any { return []any{impl.SamePost(p, other)} }})
		}
		for range 200 {
			token, members, list := postTokens()[rounds.Intn(len(postTokens()))], sets[rounds.Intn(len(sets))], lists[rounds.Intn(len(lists))]
			calls = append(calls, movesOf(p, token, pick(), members, list)...)
		}
	}
	return calls
}

func oddPresences() []impl.Presence {
	huge := impl.Presence{Here: make([]impl.Lease, 20000), Typing: make([]impl.Lease, 20000), Marks: make([]impl.Mark, 20000)}
	for i := range huge.Here {
		member := int64(i) + 1
		huge.Here[i], huge.Typing[i], huge.Marks[i] = lease(member, 5), lease(member, 5), mark(member, 5)
	}
	presences := []impl.Presence{
		{}, evening(), fullPresence(), huge, {Here: huge.Here[:31]}, {Typing: huge.Typing[:31]}, {Marks: huge.Marks[:31]}, {Marks: huge.Marks[:30]},
		{Here: []impl.Lease{lease(math.MinInt64, math.MaxInt64)}, Typing: []impl.Lease{lease(math.MaxInt64, math.MinInt64)}, Marks: []impl.Mark{mark(math.MinInt64, math.MinInt64)}},
	}
	bad := badPresences()
	for _, name := range slices.Sorted(maps.Keys(bad)) {
		presences = append(presences, bad[name])
	}
	return presences
}

// presenceNumbers are those with which the functions with presences succeed, and odd ones.
func presenceNumbers() []int64 {
	return slices.Concat([]int64{0, 1, 2, 3, 3, 5, 5, 7, 9, 9, 10, 12, 14, 15, 19, 20, 25, 300, impl.MaxLease, impl.MaxTick - 6}, oddNumbers())
}

// visitsOf changes a presence and asks it, with one number for each kind.
func visitsOf(p, other impl.Presence, member, now, number int64) []call {
	return []call{
		{"Heartbeat", func() []any { after, ok := impl.Heartbeat(p, member, now, number); return []any{after, ok} }},
		{"LeaveNow", func() []any { after, ok := impl.LeaveNow(p, member); return []any{after, ok} }},
		{"StartTyping", func() []any { after, ok := impl.StartTyping(p, member, now); return []any{after, ok} }},
		{"SweepPresence", func() []any { after, ok := impl.SweepPresence(p, now); return []any{after, ok} }},
		{"ReadUpTo", func() []any { after, ok := impl.ReadUpTo(p, member, number); return []any{after, ok} }},
		{"JoinPresence", func() []any { after, ok := impl.JoinPresence(p, other); return []any{after, ok} }},
		{"PresentAt", func() []any { list, ok := impl.PresentAt(p, now); return []any{list, ok} }},
		{"TypingAt", func() []any { list, ok := impl.TypingAt(p, now); return []any{list, ok} }},
		{"HaveRead", func() []any { list, ok := impl.HaveRead(p, number); return []any{list, ok} }},
		{"NextChange", func() []any { next, ok := impl.NextChange(p, now); return []any{next, ok} }},
		{"MarkOf", func() []any { upto, ok := impl.MarkOf(p, member); return []any{upto, ok} }},
	}
}

// unreadOf asks presences and logs what a member has not read.
func unreadOf(presences []impl.Presence, logs []impl.Log, member int64) []call {
	calls := []call{{"BadgeOf", func() []any {
		all, mentioning, ok := impl.BadgeOf(presences, logs, member)
		return []any{all, mentioning, ok}
	}}}
	for i := range min(len(presences), len(logs)) {
		calls = append(calls, call{"UnreadOf", func() []any {
			list, ok := impl.UnreadOf(presences[i], logs[i], member)
			return []any{list, ok}
		}})
	}
	return calls
}

// callsOfPresences calls every function of chapter 5, with a choice of the numbers and logs.
func callsOfPresences() []call {
	rounds := rand.New(rand.NewSource(12))
	pick := func() int64 { return presenceNumbers()[rounds.Intn(len(presenceNumbers()))] }
	presences, logs := oddPresences(), oddLogs()
	var calls []call
	for _, p := range presences {
		calls = append(calls, call{"ValidPresence", func() []any { return []any{impl.ValidPresence(p)} }})
		for _, other := range presences {
			calls = append(calls,
				call{"SamePresence", func() []any { return []any{impl.SamePresence(p, other)} }},
				call{"JoinPresence", func() []any { after, ok := impl.JoinPresence(p, other); return []any{after, ok} }})
		}
		for range 100 {
			calls = append(calls, visitsOf(p, presences[rounds.Intn(len(presences))], pick(), pick(), pick())...)
			calls = append(calls, unreadOf([]impl.Presence{p}, []impl.Log{logs[rounds.Intn(len(logs))]}, pick())...)
		}
	}
	for range 300 {
		calls = append(calls, unreadOf(presences[:rounds.Intn(5)], logs[:rounds.Intn(5)], pick())...)
	}
	return append(calls, unreadOf(make([]impl.Presence, 20000), make([]impl.Log, 20000), 7)[0])
}

// limitNumbers are those with which the functions with limits succeed, and odd ones.
func limitNumbers() []int64 {
	return slices.Concat([]int64{0, 1, 1, 2, 3, 5, 5, 7, 9, 10, 10, 12, 20, 30, impl.MaxStrikes, impl.MaxCalls, impl.MaxCalls + 1, 1000, 1001}, oddNumbers())
}

// oddBuckets are all valid but those of badBuckets.
func oddBuckets() []impl.Bucket {
	buckets := []impl.Bucket{bucket(3, 10, 2, 5), bucket(3, 10, 3, 0), bucket(1, 1, 0, 0), bucket(1000, impl.MaxTick, 0, 0), bucket(1000, 1, 1000, impl.MaxTick)}
	bad := badBuckets()
	for _, name := range slices.Sorted(maps.Keys(bad)) {
		buckets = append(buckets, bad[name])
	}
	return buckets
}

func oddTimes() [][]int64 {
	times := append(oddLists(), []int64{0, 0, 9, 10}, []int64{5, 5, 14, 15, 16, 900}, upTo(impl.MaxCalls), make([]int64, impl.MaxCalls))
	bad := notTimes()
	for _, name := range slices.Sorted(maps.Keys(bad)) {
		times = append(times, bad[name])
	}
	return times
}

func oddWords() [][]string {
	words := [][]string{nil, {}, {"a"}, {"bad", "cat"}, {"hi", "room", "x"}, namesUpTo(impl.MaxWords), oddStrings()}
	bad := notBadWords()
	for _, name := range slices.Sorted(maps.Keys(bad)) {
		words = append(words, bad[name])
	}
	return words
}

func oddStrikes() [][]impl.Strike {
	strikes := [][]impl.Strike{nil, {}, trouble(), manyStrikes(impl.MaxStrikes)}
	bad := notStrikes()
	for _, name := range slices.Sorted(maps.Keys(bad)) {
		strikes = append(strikes, bad[name])
	}
	return strikes
}

// dropsOf asks a bucket for drops.
func dropsOf(b impl.Bucket, count, at int64) []call {
	return []call{
		{"ValidBucket", func() []any { return []any{impl.ValidBucket(b)} }},
		{"LeftAt", func() []any { left, ok := impl.LeftAt(b, at); return []any{left, ok} }},
		{"TakeBucket", func() []any { after, did, ok := impl.TakeBucket(b, count, at); return []any{after, did, ok} }},
		{"WaitFor", func() []any { wait, ok := impl.WaitFor(b, count, at); return []any{wait, ok} }},
	}
}

// runsOf makes calls at ticks.
func runsOf(b impl.Bucket, times []int64, window, most int64) []call {
	return []call{
		{"RunBucket", func() []any { end, through, ok := impl.RunBucket(b, times); return []any{end, through, ok} }},
		{"RunWindow", func() []any { through, ok := impl.RunWindow(times, window, most); return []any{through, ok} }},
	}
}

// wordsIn looks for words in a text.
func wordsIn(text string, words []string) []call {
	return []call{
		{"AreBadWords", func() []any { return []any{impl.AreBadWords(words)} }},
		{"HasBadWord", func() []any { return []any{impl.HasBadWord(text, words)} }},
		{"BadWordsIn", func() []any { found, ok := impl.BadWordsIn(text, words); return []any{found, ok} }},
		{"CensorText", func() []any { censored, ok := impl.CensorText(text, words); return []any{censored, ok} }},
	}
}

// strikesOf adds a strike and asks for what there is, with one number for each kind.
func strikesOf(strikes []impl.Strike, one impl.Strike, member, at, fade, count int64) []call {
	return []call{
		{"AreStrikes", func() []any { return []any{impl.AreStrikes(strikes)} }},
		{"AddStrike", func() []any { more, ok := impl.AddStrike(strikes, one); return []any{more, ok} }},
		{"ForgiveOld", func() []any { kept, ok := impl.ForgiveOld(strikes, at); return []any{kept, ok} }},
		{"WorstMembers", func() []any { worst, ok := impl.WorstMembers(strikes, at, fade, count); return []any{worst, ok} }},
		{"PointsOf", func() []any { points, ok := impl.PointsOf(strikes, member, at, fade); return []any{points, ok} }},
	}
}

// callsOfLimits calls every function of chapter 6, with a choice of the numbers.
func callsOfLimits() []call {
	rounds := rand.New(rand.NewSource(20))
	pick := func() int64 { return limitNumbers()[rounds.Intn(len(limitNumbers()))] }
	var calls []call
	for _, n := range limitNumbers() {
		calls = append(calls, call{"PenaltyOf", func() []any { return []any{impl.PenaltyOf(n)} }})
		for range 100 {
			every, at := pick(), pick()
			calls = append(calls, call{"NewBucket", func() []any { b, ok := impl.NewBucket(n, every, at); return []any{b, ok} }})
		}
	}
	for _, b := range oddBuckets() {
		for range 200 {
			calls = append(calls, dropsOf(b, pick(), pick())...)
		}
		for _, times := range oddTimes() {
			calls = append(calls, runsOf(b, times, pick(), pick())...)
		}
	}
	for _, words := range oddWords() {
		for _, text := range append(oddStrings(), "a bad Cat", "BAD") {
			calls = append(calls, wordsIn(text, words)...)
		}
	}
	for _, strikes := range oddStrikes() {
		for range 100 {
			calls = append(calls, strikesOf(strikes, strike(pick(), pick()%4, pick()), pick(), pick(), pick(), pick())...)
		}
	}
	return calls
}

func oddEvents() []impl.Event {
	events := slices.Concat(goodEvents(), day().Events, failing())
	bad := badEvents()
	for _, name := range slices.Sorted(maps.Keys(bad)) {
		events = append(events, bad[name])
	}
	return events
}

// oddEventLists are lists of which talk takes the first ones.
func oddEventLists() [][]impl.Event {
	few := fewerOf(day().Events)
	lists := [][]impl.Event{nil, {}, {liked(3, 7)}, blinks(2), blinks(3), blinks(impl.MaxEvents - 1), blinks(impl.MaxEvents), few, day().Events, day().Events[:9], day().Events[1:], failing()}
	bad := notEvents()
	for i, name := range slices.Sorted(maps.Keys(bad)) {
		// These are very many, and much alike.
		if i%9 == 0 || len(bad[name]) > 2 {
			lists = append(lists, bad[name])
		}
	}
	return lists
}

func oddHistories() []impl.History {
	histories := []impl.History{day(), {}, {Base: impl.Log{Next: 1}}, {Base: impl.Log{Next: 1}, Events: []impl.Event{posted(1, 7, 5, "x", 0)}}}
	for _, l := range oddLogs() {
		histories = append(histories, impl.History{Base: l}, impl.History{Base: l, Events: blinks(5)}, impl.History{Base: l, Events: blinks(20000)})
	}
	for _, events := range oddEventLists() {
		histories = append(histories, impl.History{Base: talk(), Events: events}, impl.History{Base: longLog(), Events: events})
	}
	return histories
}

// eventCounts are those of which there are so many events, and odd ones.
func eventCounts() []int64 {
	return slices.Concat([]int64{-2, -1, 0, 1, 2, 3, 5, 8, 9, 15, 16, 17, impl.MaxEvents - 1, impl.MaxEvents, impl.MaxEvents + 1}, oddNumbers())
}

// eventsOf applies events to a log, one of them alone and all, and compacts them.
func eventsOf(l impl.Log, one impl.Event, events []impl.Event) []call {
	return []call{
		{"ApplyEvent", func() []any { after, ok := impl.ApplyEvent(l, one); return []any{after, ok} }},
		{"RunEvents", func() []any { after, ok := impl.RunEvents(l, events); return []any{after, ok} }},
		{"CompactEvents", func() []any { few, ok := impl.CompactEvents(events); return []any{few, ok} }},
		{"LogCost", func() []any { cost, ok := impl.LogCost(l); return []any{cost, ok} }},
	}
}

// historyOf goes on with a history, and asks it.
func historyOf(h impl.History, one impl.Event, count int64) []call {
	return []call{
		{"ValidHistory", func() []any { return []any{impl.ValidHistory(h)} }},
		{"CurrentOf", func() []any { now, ok := impl.CurrentOf(h); return []any{now, ok} }},
		{"AddEvent", func() []any { after, ok := impl.AddEvent(h, one); return []any{after, ok} }},
		{"ForgetEvents", func() []any { after, ok := impl.ForgetEvents(h, count); return []any{after, ok} }},
		{"SyncFrom", func() []any { s, ok := impl.SyncFrom(h, count); return []any{s, ok} }},
	}
}

// syncsOf brings a log up to date, with each kind of sync and with none of them.
func syncsOf(l impl.Log, events []impl.Event, whole impl.Log) []call {
	var calls []call
	for _, kind := range []int64{impl.SyncNone, impl.SyncEvents, impl.SyncWhole, -1, 3, math.MinInt64, math.MaxInt64} {
		s := impl.Sync{Kind: kind, Events: events, Whole: whole}
		calls = append(calls, call{"ApplySync", func() []any { end, ok := impl.ApplySync(l, s); return []any{end, ok} }})
	}
	return calls
}

// callsOfEvents calls every function of chapter 7, with a choice of the logs, events and counts.
func callsOfEvents() []call {
	rounds := rand.New(rand.NewSource(26))
	logs, events, lists := append(oddLogs(), talk(), talk(), endOfDay()), oddEvents(), oddEventLists()
	var calls []call
	for _, e := range events {
		calls = append(calls,
			call{"ValidEvent", func() []any { return []any{impl.ValidEvent(e)} }},
			call{"EventCost", func() []any { cost, ok := impl.EventCost(e); return []any{cost, ok} }},
			call{"EventText", func() []any { text, ok := impl.EventText(e); return []any{text, ok} }})
		calls = append(calls, eventsOf(talk(), e, []impl.Event{e})...)
	}
	for _, text := range append(oddStrings(), "0,1,7,0,0 hello", "3,1,7,0,0 ", "3,1,7,0,0", strings.Repeat("0,", 100000)) {
		calls = append(calls, call{"ReadEvent", func() []any { e, ok := impl.ReadEvent(text); return []any{e, ok} }})
	}
	for _, l := range logs {
		for range 30 {
			list := lists[rounds.Intn(len(lists))]
			calls = append(calls, eventsOf(l, events[rounds.Intn(len(events))], list)...)
			calls = append(calls, syncsOf(l, list, logs[rounds.Intn(len(logs))])...)
		}
	}
	for _, h := range oddHistories() {
		for range 10 {
			calls = append(calls, historyOf(h, events[rounds.Intn(len(events))], eventCounts()[rounds.Intn(len(eventCounts()))])...)
		}
	}
	return calls
}

func oddIndices() []impl.Index {
	indices := []impl.Index{petIndex(), {}, {Entries: []impl.Entry{}}, indexWith(entry("dog", upTo(impl.MaxMessages)...), entry(longWord(), 1)), indexWith(entry("hi", 7), entry("room", impl.MaxValue), entry("x", 1, 2))}
	bad := badIndices()
	for _, name := range slices.Sorted(maps.Keys(bad)) {
		indices = append(indices, bad[name])
	}
	return indices
}

func oddQueries() [][]string {
	queries := [][]string{{"dog"}, {"big", "dog"}, {"dog", "big", "dog"}, {"x"}, {"hi", "room", "7"}, {"cat", "big"}, {longWord()}, slices.Repeat([]string{"dog"}, impl.MaxQuery), oddStrings()}
	bad := notQueries()
	for i, name := range slices.Sorted(maps.Keys(bad)) {
		// These are very many, and much alike.
		if i%5 == 0 || len(bad[name]) > 2 || len(bad[name]) == 0 {
			queries = append(queries, bad[name])
		}
	}
	return queries
}

// searchNumbers are those with which the functions with searches succeed, and odd ones.
func searchNumbers() []int64 {
	return slices.Concat([]int64{0, 1, 1, 2, 3, 4, 5, 8, 9, 9, 11, 39, impl.MaxMessages, impl.MaxText, impl.MaxItems, 105, 105, 200, 1000, 2000}, oddNumbers())
}

// indicesOf changes an index.
func indicesOf(ix impl.Index, m impl.Message, number int64) []call {
	return []call{
		{"IndexMessage", func() []any { more, ok := impl.IndexMessage(ix, m); return []any{more, ok} }},
		{"DropFrom", func() []any { less, ok := impl.DropFrom(ix, number); return []any{less, ok} }},
	}
}

// findsOf looks for words in an index.
func findsOf(ix impl.Index, words []string, word string, count int64) []call {
	return []call{
		{"NumbersOf", func() []any { numbers, ok := impl.NumbersOf(ix, word); return []any{numbers, ok} }},
		{"WordsFrom", func() []any { from, ok := impl.WordsFrom(ix, word); return []any{from, ok} }},
		{"CommonWords", func() []any { common, ok := impl.CommonWords(ix, count); return []any{common, ok} }},
		{"FindAll", func() []any { numbers, ok := impl.FindAll(ix, words); return []any{numbers, ok} }},
		{"FindAny", func() []any { numbers, ok := impl.FindAny(ix, words); return []any{numbers, ok} }},
	}
}

// ranksOf looks for words in a log and in one of its messages.
func ranksOf(l impl.Log, m impl.Message, words []string, at, count int64) []call {
	return []call{
		{"IndexOf", func() []any { ix, ok := impl.IndexOf(l); return []any{ix, ok} }},
		{"FindPhrase", func() []any { numbers, ok := impl.FindPhrase(l, words); return []any{numbers, ok} }},
		{"BestOf", func() []any { best, ok := impl.BestOf(l, words, at, count); return []any{best, ok} }},
		{"PointsFor", func() []any { points, ok := impl.PointsFor(m, words, at); return []any{points, ok} }},
	}
}

// marksOf looks for words in a text.
func marksOf(text string, words []string, wide int64) []call {
	return []call{
		{"MarkWords", func() []any { marked, ok := impl.MarkWords(text, words); return []any{marked, ok} }},
		{"SnippetOf", func() []any { snippet, ok := impl.SnippetOf(text, words, wide); return []any{snippet, ok} }},
	}
}

// callsOfSearch calls every function of chapter 8, with a choice of the words and numbers.
func callsOfSearch() []call {
	rounds := rand.New(rand.NewSource(32))
	pick := func() int64 { return searchNumbers()[rounds.Intn(len(searchNumbers()))] }
	queries, texts := oddQueries(), append(oddStrings(), "Big cat, big dog", "DOG", "dog", "do")
	query := func() []string { return queries[rounds.Intn(len(queries))] }
	text := func() string { return texts[rounds.Intn(len(texts))] }
	var calls []call
	for _, ix := range oddIndices() {
		calls = append(calls, call{"ValidIndex", func() []any { return []any{impl.ValidIndex(ix)} }})
		for _, other := range oddIndices() {
			calls = append(calls, call{"SameIndex", func() []any { return []any{impl.SameIndex(ix, other)} }})
		}
		for range 50 {
			m := impl.Message{Number: pick(), Sender: 1 + pick()%4, At: pick(), Text: text(), Likes: oddLists()[rounds.Intn(len(oddLists()))]}
			calls = append(calls, indicesOf(ix, m, pick())...)
			calls = append(calls, findsOf(ix, query(), text(), pick())...)
		}
	}
	for _, l := range append(oddLogs(), pets()) {
		for range 100 {
			m := impl.Message{Number: 9, Sender: 7, At: pick(), Text: text()}
			if len(l.Messages) > 0 {
				m = l.Messages[rounds.Intn(len(l.Messages))]
			}
			calls = append(calls, ranksOf(l, m, query(), pick(), pick())...)
		}
	}
	for _, words := range append(queries, oddWords()...) {
		for _, text := range texts {
			calls = append(calls, marksOf(text, words, pick())...)
		}
	}
	return calls
}

// oddReminderLists are lists of reminders, some of which are none.
func oddReminderLists() [][]impl.Reminder {
	lists := [][]impl.Reminder{nil, {}, chores(), chores()[:1], manyReminders(impl.MaxReminders), slices.Repeat(chores(), 5)}
	bad := notReminders()
	for i, name := range slices.Sorted(maps.Keys(bad)) {
		// These are very many, and much alike.
		if i%7 == 0 || len(bad[name]) > 20 {
			lists = append(lists, bad[name])
		}
	}
	return lists
}

// oddBlockLists are lists of blocks, some of which are not sound.
func oddBlockLists() [][]impl.Block {
	blocks := sealed(bodiesOf(talk(), 3)...)
	lines := linesOf(longLog().Messages...)
	lists := [][]impl.Block{
		nil, {}, blocks, blocks[:1], blocks[1:], sealed(lines...), sealed(append(lines, lines[0])...), sealed(bodiesOf(wideLog(40, impl.MaxBytes-32), 40)...), sealed(bodiesOf(wideLog(20, impl.MaxBytes), 20)...),
		make([]impl.Block, 5), make([]impl.Block, 20000), slices.Repeat(blocks, 10), {{From: math.MinInt64, Count: math.MaxInt64}},
	}
	for _, s := range append(oddStrings(), notLines()...) {
		lists = append(lists, sealed(s), sealed(s+"\n"), butBlock(blocks, 1, func(b *impl.Block) { b.Body = s }), butBlock(blocks, 0, func(b *impl.Block) { b.Before = s }), butBlock(blocks, 2, func(b *impl.Block) { b.Digest = s }))
	}
	for _, n := range oddNumbers() {
		lists = append(lists, butBlock(blocks, 1, func(b *impl.Block) { b.From = n }), butBlock(blocks, 1, func(b *impl.Block) { b.Count = n }))
	}
	return lists
}

// sweepNumbers are those with which the functions with sweeps succeed, and odd ones.
func sweepNumbers() []int64 {
	return slices.Concat([]int64{0, 0, 1, 2, 3, 4, 5, 8, 9, 9, 10, 12, 14, 20, 20, 39, impl.MaxMessages, 100, 105, 300}, oddNumbers())
}

// duesOf lets reminders fire.
func duesOf(list []impl.Reminder, now int64) []call {
	return []call{
		{"DueReminders", func() []any {
			fired, left, ok := impl.DueReminders(list, now)
			return []any{fired, left, ok}
		}},
		{"NextReminder", func() []any { next, ok := impl.NextReminder(list); return []any{next, ok} }},
	}
}

// sweepsOf sweeps a log, asks what it has and has not, and exports it.
func sweepsOf(l impl.Log, now, age, keep int64, pins []int64) []call {
	return []call{
		{"SweepLog", func() []any { swept, ok := impl.SweepLog(l, now, age, keep, pins); return []any{swept, ok} }},
		{"AgesOf", func() []any { ages, ok := impl.AgesOf(l, now); return []any{ages, ok} }},
		{"HolesOf", func() []any { holes, ok := impl.HolesOf(l); return []any{holes, ok} }},
		{"ExportLog", func() []any { blocks, ok := impl.ExportLog(l, keep); return []any{blocks, ok} }},
	}
}

// importsOf reads blocks.
func importsOf(blocks []impl.Block, next int64) []call {
	return []call{
		{"ImportBlocks", func() []any { l, ok := impl.ImportBlocks(blocks, next); return []any{l, ok} }},
		{"FirstBad", func() []any { bad, ok := impl.FirstBad(blocks); return []any{bad, ok} }},
		{"AreBlocks", func() []any { return []any{impl.AreBlocks(blocks)} }},
	}
}

// callsOfBlocks calls every function of chapter 9, with a choice of the numbers and pins.
func callsOfBlocks() []call {
	rounds := rand.New(rand.NewSource(38))
	pick := func() int64 { return sweepNumbers()[rounds.Intn(len(sweepNumbers()))] }
	pins := slices.Concat(oddLists(), notPins(), [][]int64{{2}, {3, 9, 13}, upTo(13)})
	var calls []call
	for _, list := range oddReminderLists() {
		for _, r := range list[:min(len(list), 50)] {
			calls = append(calls, call{"IsReminder", func() []any { return []any{impl.IsReminder(r)} }})
		}
		for range 30 {
			calls = append(calls, duesOf(list, pick())...)
		}
	}
	for _, l := range append(oddLogs(), pets(), wideLog(40, impl.MaxBytes-32)) {
		for range 100 {
			calls = append(calls, sweepsOf(l, pick(), pick(), pick(), pins[rounds.Intn(len(pins))])...)
		}
		for _, m := range l.Messages[:min(len(l.Messages), 50)] {
			calls = append(calls, call{"MessageLine", func() []any { line, ok := impl.MessageLine(m); return []any{line, ok} }})
		}
	}
	for _, line := range slices.Concat(oddStrings(), notLines(), linesOf(talk().Messages...), slices.Sorted(maps.Keys(someMessages()))) {
		calls = append(calls, call{"ReadLine", func() []any { m, ok := impl.ReadLine(line); return []any{m, ok} }})
	}
	for _, blocks := range oddBlockLists() {
		for range 5 {
			calls = append(calls, importsOf(blocks, pick())...)
		}
	}
	return calls
}

// Promise 1: every function returns for all arguments, with equal results for equal ones.
// What fails has zero values as its other results.
func TestCallsReturnAndAreEqual(t *testing.T) {
	for _, c := range slices.Concat(callsOfNumbers(), callsOfStrings(), callsOfLists(), callsOfRooms(), callsOfLogs(), callsOfPosts(), callsOfPresences(), callsOfLimits(), callsOfEvents(), callsOfSearch(), callsOfBlocks()) {
		first, second := c.run(), c.run()
		if !reflect.DeepEqual(first, second) {
			t.Errorf("%s: %v, then %v", c.name, first, second)
		}
		last := len(first) - 1
		for _, other := range first[:last] {
			if first[last] == false && !isZero(other) {
				t.Errorf("%s: fails, but has the result %v", c.name, other)
			}
		}
	}
}

func isZero(v any) bool {
	r := reflect.ValueOf(v)
	return r.IsZero() || r.Kind() == reflect.Slice && r.Len() == 0
}

// spare returns list with unused capacity behind it, and a report whether any of this memory has changed.
func spare[T comparable](list []T, behind ...T) ([]T, func() bool) {
	whole := slices.Concat(list, behind)
	kept := slices.Clone(whole)
	return whole[:len(list)], func() bool { return !slices.Equal(whole, kept) }
}

// Promise 1: no function modifies an argument, nor what lies in its unused capacity.
func TestArgumentsStayAsTheyAre(t *testing.T) {
	for _, one := range oddLists() {
		for _, other := range oddLists() {
			a, aChanged := spare(one, -5, 9, -5)
			b, bChanged := spare(other, 8, -6, 8)
			impl.ListText(a)
			impl.IsMembers(a)
			impl.JoinSets(a, b)
			impl.LessSet(a, b)
			if aChanged() || bChanged() {
				t.Fatalf("%v or %v is changed", one, other)
			}
		}
	}
	parts, changed := spare([]string{"b", "a", "", "b"}, "spare", "spare")
	impl.ChainOf(strings.Repeat("d", 32), parts)
	isBool(t, "the parts are changed", changed(), false)
}

// Promise 1: results are new memory: what is written into one is seen in no argument and in no other result.
func TestResultsAreNewMemory(t *testing.T) {
	a, aChanged := spare([]int64{1, 3, 5}, 7, 9)
	b, bChanged := spare([]int64{2, 3}, 7, 9)
	for name, run := range map[string]func() []int64{
		"JoinSets":         func() []int64 { list, _ := impl.JoinSets(a, b); return list },
		"JoinSets and nil": func() []int64 { list, _ := impl.JoinSets(a, nil); return list },
		"nil and JoinSets": func() []int64 { list, _ := impl.JoinSets(nil, a); return list },
		"LessSet":          func() []int64 { list, _ := impl.LessSet(a, b); return list },
		"LessSet and nil":  func() []int64 { list, _ := impl.LessSet(a, nil); return list },
		"ReadList":         func() []int64 { list, _ := impl.ReadList("4,5,6"); return list },
		"MentionsOf":       func() []int64 { list, _ := impl.MentionsOf("@4 @5 @6"); return list },
	} {
		first := run()
		kept := slices.Clone(first)
		second := run()
		overwrite(second)
		isBool(t, name+": the other result is kept", slices.Equal(first, kept), true)
		isBool(t, name+": an argument is changed", aChanged() || bChanged(), false)
		isBool(t, name+": the next result is the same", slices.Equal(run(), kept), true)
	}
}

// overwrite writes into all memory of a list.
func overwrite(list []int64) { spoil(list, -77) }

// Promise 1: nil and an empty list are the same argument.
func TestNilIsAnEmptyList(t *testing.T) {
	for _, empty := range [][]int64{nil, {}} {
		text, ok := impl.ListText(empty)
		isValue(t, "ListText", text, ok, "none")
		isBool(t, "IsMembers", impl.IsMembers(empty), true)
		list, ok := impl.JoinSets(empty, []int64{4})
		isList(t, "JoinSets", list, ok, 4)
		list, ok = impl.LessSet([]int64{4}, empty)
		isList(t, "LessSet", list, ok, 4)
	}
	for _, empty := range [][]string{nil, {}} {
		chain, ok := impl.ChainOf(strings.Repeat("d", 32), empty)
		isList(t, "ChainOf", chain, ok)
	}
}

// spareRoom is spare for all lists of a room.
func spareRoom(r impl.Room) (impl.Room, func() bool) {
	members, membersChanged := spare(r.Members, member(-5, 9, 9, 9), member(2, 3, 0, 0))
	invites, invitesChanged := spare(r.Invites, invite(-5, 9, 9), invite(2, 1, 1))
	bans, bansChanged := spare(r.Bans, ban(-5, 9), ban(2, 1))
	return impl.Room{Open: r.Open, Members: members, Invites: invites, Bans: bans}, func() bool {
		return membersChanged() || invitesChanged() || bansChanged()
	}
}

// goodSteps are calls of all functions that return a room that has been changed; they succeed for houseOf.
func goodSteps() map[string]func(r impl.Room) (impl.Room, bool) {
	good := map[string]func(r impl.Room) (impl.Room, bool){
		"JoinRoom":  func(r impl.Room) (impl.Room, bool) { return impl.JoinRoom(r, 40, 10) },
		"LeaveRoom": func(r impl.Room) (impl.Room, bool) { return impl.LeaveRoom(r, 1) },
		"SweepRoom": func(r impl.Room) (impl.Room, bool) { return impl.SweepRoom(r, 55) },
		"nothing":   func(r impl.Room) (impl.Room, bool) { return impl.SweepRoom(r, 0) },
	}
	for _, o := range orders() {
		good[o.name] = func(r impl.Room) (impl.Room, bool) { return o.run(r, o.by, 7) }
	}
	return good
}

// Promise 1 for rooms: no function of chapter 2 modifies an argument.
func TestRoomsStayAsTheyAre(t *testing.T) {
	rounds := rand.New(rand.NewSource(6))
	for _, odd := range oddRooms() {
		if len(odd.Members) > 100 {
			continue
		}
		r, changed := spareRoom(odd)
		other, otherChanged := spareRoom(odd)
		impl.ValidRoom(r)
		impl.SameRoom(r, other)
		impl.RanksOf(r)
		impl.CountRoles(r)
		for range 100 {
			id, n := roomNumbers()[rounds.Intn(16)], roomNumbers()[rounds.Intn(16)]
			impl.RoleOf(r, id)
			impl.IsAllowed(r, id, n, 7)
			for _, s := range steps() {
				s.run(r, 1, id, n, 7)
			}
		}
		for _, run := range goodSteps() {
			run(r)
		}
		isBool(t, roomText(odd)+" is changed", changed() || otherChanged(), false)
	}
}

// Promise 1 for rooms: each list of a result is new memory, in which no other one lies.
func TestRoomsAreNewMemory(t *testing.T) {
	r, changed := spareRoom(houseOf())
	for name, run := range goodSteps() {
		first, ok := run(r)
		isBool(t, name, ok, true)
		kept := copyOfRoom(first)
		second, _ := run(r)
		spoil(second.Members, member(-7, -7, -7, -7))
		spoil(second.Invites, invite(-7, -7, -7))
		spoil(second.Bans, ban(-7, -7))
		isBool(t, name+": the room is changed", changed(), false)
		isBool(t, name+": the other result is kept", impl.SameRoom(first, kept), true)
		third, _ := run(r)
		isBool(t, name+": the next result is the same", impl.SameRoom(third, kept), true)
	}
	for name, run := range map[string]func(r impl.Room) ([]int64, bool){"RanksOf": impl.RanksOf, "CountRoles": impl.CountRoles} {
		first, _ := run(r)
		kept := slices.Clone(first)
		second, _ := run(r)
		overwrite(second)
		isBool(t, name+": the other result is kept", slices.Equal(first, kept), true)
		isBool(t, name+": the room is changed", changed(), false)
	}
}

// spoil writes one value into all memory of a list.
func spoil[T any](list []T, with T) {
	list = list[:cap(list)]
	for i := range list {
		list[i] = with
	}
}

// Promise 1 for rooms: nil and an empty list are the same in a room.
func TestNilIsAnEmptyListOfARoom(t *testing.T) {
	none := impl.Room{Members: []impl.Member{member(1, 3, 0, 0), member(31, 0, 0, 0)}}
	empty := with(none, func(r *impl.Room) { r.Invites, r.Bans = []impl.Invite{}, []impl.Ban{} })
	isBool(t, "ValidRoom", impl.ValidRoom(none) && impl.ValidRoom(empty), true)
	for _, o := range orders() {
		by := int64(1)
		one, ok := o.run(none, by, 7)
		other, alsoOk := o.run(empty, by, 7)
		isBool(t, o.name+" succeeds for both or none", ok == alsoOk, true)
		isRoom(t, o.name, one, true, other)
	}
}

// spareLog is spare for all lists of a log.
func spareLog(l impl.Log) (impl.Log, func() bool) {
	whole := copyOfLog(impl.Log{Messages: append(slices.Clone(l.Messages), said(-5, 9, 9, "spare", 9), said(21, 7, 9, "spare", 0))})
	kept := copyOfLog(whole)
	var changes []func() bool
	for i, m := range whole.Messages {
		likes, changed := spare(m.Likes, -5, 9, 999, impl.MaxMember)
		whole.Messages[i].Likes = likes
		changes = append(changes, changed)
	}
	return impl.Log{Next: l.Next, Messages: whole.Messages[:len(l.Messages)]}, func() bool {
		return logText(whole) != logText(kept) || slices.ContainsFunc(changes, func(changed func() bool) bool { return changed() })
	}
}

// goodActs are calls of all functions that return a log that has been changed; they succeed for talk.
func goodActs(l impl.Log) []call {
	return []call{
		changesOf(l, 3, 7, 9, "x")[0], changesOf(l, 0, 7, 9, "x")[0], changesOf(l, 2, 7, 0, "x")[1], changesOf(l, 13, impl.MaxMember, 0, "x")[1],
		changesOf(l, 2, 7, 0, "")[2], changesOf(l, 3, 8, 0, "")[2], changesOf(l, 13, 500, 0, "")[3], changesOf(l, 9, 1, 0, "")[3],
		changesOf(l, 13, 7, 0, "")[4], changesOf(l, 13, 999, 0, "")[4], changesOf(l, 6, 1, 0, "")[4],
	}
}

// Promise 1 for logs: no function of chapter 3 modifies an argument.
func TestLogsStayAsTheyAre(t *testing.T) {
	rounds := rand.New(rand.NewSource(8))
	pick := func() int64 { return logNumbers()[rounds.Intn(len(logNumbers()))] }
	for _, odd := range oddLogs() {
		if len(odd.Messages) > 100 {
			continue
		}
		l, changed := spareLog(odd)
		other, otherChanged := spareLog(odd)
		impl.ValidLog(l)
		impl.SameLog(l, other)
		impl.CountsOf(l)
		impl.DigestOfLog(l)
		for _, m := range l.Messages {
			impl.ValidMessage(m)
		}
		calls := goodActs(l)
		for range 100 {
			calls = append(calls, asksOf(l, pick(), pick())...)
			calls = append(calls, changesOf(l, pick(), pick(), 9, "x")...)
		}
		for _, c := range calls {
			c.run()
		}
		isBool(t, logText(odd)+" is changed", changed() || otherChanged(), false)
	}
}

// spoilAll writes into all memory of what a function of chapter 3 returns.
func spoilAll(result any) {
	switch r := result.(type) {
	case impl.Log:
		for _, m := range r.Messages {
			overwrite(m.Likes)
		}
		spoil(r.Messages, said(-7, -7, -7, "spoiled", -7))
	case impl.Message:
		overwrite(r.Likes)
	case []int64:
		overwrite(r)
	case [][]int64:
		for _, row := range r {
			overwrite(row)
		}
		spoil(r, []int64{-7})
	}
}

// Promise 1 for logs: each list of a result is new memory, in which no other one lies.
func TestLogsAreNewMemory(t *testing.T) {
	l, changed := spareLog(talk())
	calls := slices.Concat(goodActs(l), asksOf(l, 2, 0)[:4], asksOf(l, 13, 0)[:1], asksOf(l, 7, 0)[4:])
	calls = append(calls, call{"CountsOf", func() []any { counts, ok := impl.CountsOf(l); return []any{counts, ok} }})
	for _, c := range calls {
		first, second := c.run(), c.run()
		isBool(t, c.name, first[len(first)-1].(bool), true)
		kept := fmt.Sprintf("%+v", first)
		spoilAll(second[0])
		isBool(t, c.name+": the log is changed", changed(), false)
		isBool(t, c.name+": the other result is kept", fmt.Sprintf("%+v", first) == kept, true)
		isBool(t, c.name+": the next result is the same", fmt.Sprintf("%+v", c.run()) == kept, true)
	}
}

// Promise 1 for logs: no two lists of one result share memory.
func TestListsOfALogAreApart(t *testing.T) {
	for _, c := range goodActs(talk()) {
		after := c.run()[0].(impl.Log)
		for i, m := range after.Messages {
			others := but(after, func(l *impl.Log) { l.Messages = slices.Delete(l.Messages, i, i+1) })
			overwrite(m.Likes)
			rest := impl.Log{Next: after.Next, Messages: slices.Delete(slices.Clone(after.Messages), i, i+1)}
			isLog(t, c.name+": the other messages", rest, true, others)
		}
	}
	counts, _ := impl.CountsOf(talk())
	overwrite(counts[0])
	isList(t, "the other row", counts[1], true, 8, 2, 0, 0)
}

// Promise 1 for logs: nil and an empty list are the same in a log.
func TestNilIsAnEmptyListOfALog(t *testing.T) {
	empty := but(talk(), func(l *impl.Log) {
		for i := range l.Messages {
			l.Messages[i].Likes = append([]int64{}, l.Messages[i].Likes...)
		}
	})
	for i, c := range goodActs(talk()) {
		one, other := c.run(), goodActs(empty)[i].run()
		isLog(t, c.name, one[0].(impl.Log), other[len(other)-1].(bool), other[0].(impl.Log))
	}
	for _, messages := range [][]impl.Message{nil, {}} {
		l := impl.Log{Next: 1, Messages: messages}
		isBool(t, "ValidLog", impl.ValidLog(l), true)
		after, number, ok := impl.PostMessage(l, 7, 0, "x", 0)
		isLog(t, "PostMessage", after, ok, impl.Log{Next: 2, Messages: []impl.Message{said(1, 7, 0, "x", 0)}})
		isValue(t, "PostMessage", number, ok, 1)
	}
}

// sparePost is spare for all lists of a post.
func sparePost(p impl.Post) (impl.Post, func() bool) {
	whole := copyOfPost(impl.Post{Boxes: append(slices.Clone(p.Boxes), box("spare", -5, -5, parcel(-5, -5)), box(ends, 7, 0))})
	kept := copyOfPost(whole)
	var changes []func() bool
	for i, b := range whole.Boxes {
		held, changed := spare(b.Held, parcel(-5, 9), parcel(1, 1), parcel(999, 9))
		whole.Boxes[i].Held = held
		changes = append(changes, changed)
	}
	return impl.Post{Limit: p.Limit, Boxes: whole.Boxes[:len(p.Boxes)]}, func() bool {
		return postText(whole) != postText(kept) || slices.ContainsFunc(changes, func(changed func() bool) bool { return changed() })
	}
}

// goodMoves are calls of all functions that return a post that has been changed, and of the others with posts; they succeed for mail.
func goodMoves(p impl.Post, members []int64, list []impl.Parcel) []call {
	good := movesOf(p, first, 2, members, list)
	good[0] = movesOf(p, "bbbbbbbbbbbbbbbb", 2, nil, nil)[0]
	return append(good, movesOf(p, zeros, 1, nil, list)[4:7]...)
}

// Promise 1 for posts: no function of chapter 4 modifies an argument.
func TestPostsStayAsTheyAre(t *testing.T) {
	rounds := rand.New(rand.NewSource(10))
	for _, odd := range oddPosts() {
		if len(odd.Boxes) > 100 {
			continue
		}
		p, changed := sparePost(odd)
		other, otherChanged := sparePost(odd)
		members, membersChanged := spare([]int64{1, 7, 8}, 9, -5, 7)
		list, listChanged := spare([]impl.Parcel{parcel(3, 3), parcel(1, 2), parcel(3, 1), parcel(2, 4)}, parcel(2, 2), parcel(-5, 0))
		impl.ValidPost(p)
		impl.SamePost(p, other)
		impl.RoomsIn(list)
		impl.FairOrder(list, 2)
		calls := goodMoves(p, members, list)
		for range 100 {
			token, number := postTokens()[rounds.Intn(len(postTokens()))], postNumbers()[rounds.Intn(14)]
			calls = append(calls, movesOf(p, token, number, members, list)...)
			calls = append(calls, movesOf(p, token, number, members, list[:rounds.Intn(3)])...)
		}
		for _, c := range calls {
			c.run()
		}
		isBool(t, postText(odd)+" is changed", changed() || otherChanged(), false)
		isBool(t, "the members or the parcels are changed", membersChanged() || listChanged(), false)
	}
}

// spoilPost writes into all memory of what a function of chapter 4 returns.
func spoilPost(result any) {
	switch r := result.(type) {
	case impl.Post:
		for _, b := range r.Boxes {
			spoil(b.Held, parcel(-7, -7))
		}
		spoil(r.Boxes, box("spoiled", -7, -7))
	case []impl.Parcel:
		spoil(r, parcel(-7, -7))
	case []string:
		spoil(r, "spoiled")
	case []int64:
		overwrite(r)
	}
}

// Promise 1 for posts: each list of a result is new memory.
func TestPostsAreNewMemory(t *testing.T) {
	p, changed := sparePost(mail())
	members, membersChanged := spare([]int64{1, 7, 8}, 9)
	list, listChanged := spare([]impl.Parcel{parcel(3, 3), parcel(1, 2)}, parcel(2, 2), parcel(9, 9))
	calls := append(goodMoves(p, members, list), goodMoves(p, nil, list[:1])...)
	calls = append(calls,
		call{"RoomsIn", func() []any { rooms, ok := impl.RoomsIn(list); return []any{rooms, ok} }},
		call{"FairOrder", func() []any { fair, ok := impl.FairOrder(list, 2); return []any{fair, ok} }},
		call{"FairOrder of one", func() []any { fair, ok := impl.FairOrder(list[:1], 2); return []any{fair, ok} }})
	for _, c := range calls {
		one, other := c.run(), c.run()
		last := len(one) - 1
		isBool(t, c.name, one[last].(bool), true)
		kept := fmt.Sprintf("%+v", one)
		for _, result := range other[:last] {
			spoilPost(result)
		}
		isBool(t, c.name+": the post is changed", changed() || membersChanged() || listChanged(), false)
		isBool(t, c.name+": the other result is kept", fmt.Sprintf("%+v", one) == kept, true)
		isBool(t, c.name+": the next result is the same", fmt.Sprintf("%+v", c.run()) == kept, true)
	}
}

// Promise 1 for posts: no two lists of one result share memory.
func TestListsOfAPostAreApart(t *testing.T) {
	for _, c := range goodMoves(mail(), []int64{1, 7, 8}, []impl.Parcel{parcel(3, 3), parcel(1, 2)})[:8] {
		after := c.run()[0].(impl.Post)
		want := copyOfPost(after)
		for i, b := range after.Boxes {
			held := slices.Clone(b.Held)
			spoil(b.Held, parcel(-7, -7))
			want.Boxes[i].Held = b.Held
			isPost(t, c.name+": the other boxes", after, true, want)
			copy(b.Held, held)
		}
	}
	for _, count := range []int64{0, 1, 2, 3, impl.MaxHeld} {
		after, taken, _, _ := impl.TakeFrom(mail(), first, count)
		kept, keptTaken := copyOfPost(after), slices.Clone(taken)
		spoil(taken, parcel(-7, -7))
		isPost(t, fmt.Sprint("the post without ", count), after, true, kept)
		after, taken, _, _ = impl.TakeFrom(mail(), first, count)
		spoilPost(after)
		isList(t, fmt.Sprint("the first ", count), taken, true, keptTaken...)
	}
}

// Promise 1 for posts: nil and an empty list are the same in a post.
func TestNilIsAnEmptyListOfAPost(t *testing.T) {
	empty := butBox(zeros, func(b *impl.Box) { b.Held = []impl.Parcel{} })
	for _, list := range [][]impl.Parcel{parcels(3), parcels(1)} {
		for i, c := range goodMoves(mail(), []int64{7}, list) {
			one, other := c.run(), goodMoves(empty, []int64{7}, list)[i].run()
			isBool(t, c.name, fmt.Sprintf("%+v", one) == fmt.Sprintf("%+v", other), true)
		}
	}
	all, got, ok := impl.SendAll(mail(), []int64{}, []impl.Parcel{})
	isPost(t, "SendAll", all, ok, mail())
	isValue(t, "SendAll", got, ok, 0)
	for _, boxes := range [][]impl.Box{nil, {}} {
		p, ok := impl.AddBox(impl.Post{Limit: 2, Boxes: boxes}, first, 7)
		isPost(t, "AddBox", p, ok, impl.Post{Limit: 2, Boxes: []impl.Box{box(first, 7, 0)}})
	}
}

// sparePresence is spare for all lists of a presence.
func sparePresence(p impl.Presence) (impl.Presence, func() bool) {
	here, hereChanged := spare(p.Here, lease(-5, 9), lease(301, 9))
	typing, typingChanged := spare(p.Typing, lease(-5, 9), lease(301, 9))
	marks, marksChanged := spare(p.Marks, mark(-5, 9), mark(301, 9))
	return impl.Presence{Here: here, Typing: typing, Marks: marks}, func() bool { return hereChanged() || typingChanged() || marksChanged() }
}

// goodVisits are calls of all functions with presences; they succeed for evening.
func goodVisits(p, other impl.Presence) []call {
	good := append(visitsOf(p, other, 9, 10, 3), visitsOf(p, other, 5, 13, 30)...)
	// What changes nothing returns new memory too.
	good = append(good, visitsOf(p, impl.Presence{}, 3, 0, 7)...)
	return append(good, visitsOf(impl.Presence{}, p, 3, 0, 7)[5])
}

// Promise 1 for presences: no function of chapter 5 modifies an argument.
func TestPresencesStayAsTheyAre(t *testing.T) {
	rounds := rand.New(rand.NewSource(13))
	pick := func() int64 { return presenceNumbers()[rounds.Intn(len(presenceNumbers()))] }
	for _, odd := range oddPresences() {
		if len(odd.Here) > 100 {
			continue
		}
		p, changed := sparePresence(odd)
		other, otherChanged := sparePresence(evening())
		l, logChanged := spareLog(talk())
		impl.ValidPresence(p)
		impl.SamePresence(p, other)
		presences, logs := []impl.Presence{p, other, p}, []impl.Log{l, l, l}
		calls := append(goodVisits(p, other), goodVisits(other, p)...)
		for range 100 {
			calls = append(calls, visitsOf(p, other, pick(), pick(), pick())...)
			calls = append(calls, unreadOf(presences[:2], logs[:2], pick())...)
		}
		for _, c := range calls {
			c.run()
		}
		isBool(t, presenceText(odd)+" is changed", changed() || otherChanged(), false)
		isBool(t, "the log is changed", logChanged(), false)
		isBool(t, "the presences are changed", presenceText(presences[0]) == presenceText(odd) && presenceText(presences[2]) == presenceText(odd), true)
	}
}

// spoilPresence writes into all memory of what a function of chapter 5 returns.
func spoilPresence(result any) {
	switch r := result.(type) {
	case impl.Presence:
		spoil(r.Here, lease(-7, -7))
		spoil(r.Typing, lease(-7, -7))
		spoil(r.Marks, mark(-7, -7))
	case []int64:
		overwrite(r)
	}
}

// Promise 1 for presences: each list of a result is new memory.
func TestPresencesAreNewMemory(t *testing.T) {
	p, changed := sparePresence(evening())
	other, otherChanged := sparePresence(impl.Presence{Here: []impl.Lease{lease(4, 8)}, Typing: []impl.Lease{lease(4, 8)}, Marks: []impl.Mark{mark(4, 8)}})
	l, logChanged := spareLog(talk())
	calls := append(goodVisits(p, other), unreadOf([]impl.Presence{p, other}, []impl.Log{l, l}, 7)...)
	for _, c := range calls {
		one, second := c.run(), c.run()
		isBool(t, c.name, one[len(one)-1].(bool), true)
		kept := fmt.Sprintf("%+v", one)
		spoilPresence(second[0])
		isBool(t, c.name+": an argument is changed", changed() || otherChanged() || logChanged(), false)
		isBool(t, c.name+": the other result is kept", fmt.Sprintf("%+v", one) == kept, true)
		isBool(t, c.name+": the next result is the same", fmt.Sprintf("%+v", c.run()) == kept, true)
	}
}

// Promise 1 for presences: no two lists of one result share memory.
func TestListsOfAPresenceAreApart(t *testing.T) {
	// Here and Typing hold the same leases, so that one list could stand for both.
	same := butPresence(evening(), func(p *impl.Presence) { p.Typing = p.Here })
	for _, c := range goodVisits(same, same) {
		after, isPresence := c.run()[0].(impl.Presence)
		if !isPresence {
			continue
		}
		here, typing := slices.Clone(after.Here), slices.Clone(after.Typing)
		spoil(after.Here, lease(-7, -7))
		isList(t, c.name+": Typing", after.Typing, true, typing...)
		copy(after.Here, here)
		spoil(after.Typing, lease(-7, -7))
		isList(t, c.name+": Here", after.Here, true, here...)
	}
}

// Promise 1 for presences: nil and an empty list are the same in a presence.
func TestNilIsAnEmptyListOfAPresence(t *testing.T) {
	none := impl.Presence{}
	empty := impl.Presence{Here: []impl.Lease{}, Typing: []impl.Lease{}, Marks: []impl.Mark{}}
	isBool(t, "ValidPresence", impl.ValidPresence(none) && impl.ValidPresence(empty), true)
	for _, both := range [][2][]call{
		{goodVisits(none, evening()), goodVisits(empty, evening())}, {goodVisits(evening(), none), goodVisits(evening(), empty)},
		{unreadOf([]impl.Presence{none}, []impl.Log{talk()}, 7), unreadOf([]impl.Presence{empty}, []impl.Log{talk()}, 7)},
		{unreadOf(nil, nil, 7), unreadOf([]impl.Presence{}, []impl.Log{}, 7)},
	} {
		for i, c := range both[0] {
			one, other := c.run(), both[1][i].run()
			isBool(t, c.name, fmt.Sprintf("%+v", one) == fmt.Sprintf("%+v", other), true)
		}
	}
}

// goodLimits are calls of all functions of chapter 6 with lists; they succeed for the lists that TestLimitsAreNewMemory has.
func goodLimits(times []int64, words []string, strikes []impl.Strike) []call {
	calls := append(runsOf(bucket(2, 10, 2, 0), times, 10, 2), wordsIn("a bad dog, BAD cat", words)...)
	calls = append(calls, wordsIn("all is well", words)...)
	calls = append(calls, strikesOf(strikes, strike(7, impl.StrikeFlood, impl.MaxTick), 2, 10, 10, 64)...)
	// Where all strikes stay, and where none do.
	calls = append(calls, strikesOf(strikes, strike(1, impl.StrikeWord, impl.MaxTick), 2, 0, 10, 0)...)
	return append(calls, strikesOf(strikes, strike(1, impl.StrikeTaken, impl.MaxTick), 2, impl.MaxTick, 1, 1)...)
}

// Promise 1 for limits: no function of chapter 6 modifies an argument.
func TestLimitsStayAsTheyAre(t *testing.T) {
	rounds := rand.New(rand.NewSource(21))
	pick := func() int64 { return limitNumbers()[rounds.Intn(19)] }
	for _, odd := range oddTimes() {
		times, changed := spare(odd, -5, 9, impl.MaxTick)
		for range 20 {
			for _, c := range runsOf(bucket(1+rounds.Int63n(3), 10, 1, 0), times, pick(), pick()) {
				c.run()
			}
		}
		isBool(t, fmt.Sprint("the ticks ", odd, " are changed"), changed(), false)
	}
	for _, odd := range oddWords() {
		words, changed := spare(odd, "", "zzz", "bad")
		for _, text := range append(oddStrings(), "a bad Cat", "BAD") {
			for _, c := range wordsIn(text, words) {
				c.run()
			}
		}
		isBool(t, fmt.Sprint("the words ", odd, " are changed"), changed(), false)
	}
	for _, odd := range oddStrikes() {
		strikes, changed := spare(odd, strike(-5, -5, -5), strike(7, 1, impl.MaxTick))
		for range 100 {
			for _, c := range strikesOf(strikes, strike(7, impl.StrikeFlood, impl.MaxTick), pick(), pick(), pick(), pick()) {
				c.run()
			}
		}
		isBool(t, fmt.Sprint("the strikes ", odd, " are changed"), changed(), false)
	}
}

// spoilLimits writes into all memory of what a function of chapter 6 returns.
func spoilLimits(result any) {
	switch r := result.(type) {
	case []bool:
		all := r[:cap(r)]
		for i := range all {
			all[i] = !all[i]
		}
	case []string:
		spoil(r, "spoiled")
	case []impl.Strike:
		spoil(r, strike(-7, -7, -7))
	case []int64:
		overwrite(r)
	}
}

// Promise 1 for limits: each list of a result is new memory.
func TestLimitsAreNewMemory(t *testing.T) {
	times, timesChanged := spare([]int64{0, 0, 9, 10, 10, 30}, 30, 40)
	words, wordsChanged := spare([]string{"bad", "cat"}, "dog", "zebra")
	strikes, strikesChanged := spare(trouble(), strike(7, 1, impl.MaxTick), strike(7, 2, impl.MaxTick))
	for _, c := range goodLimits(times, words, strikes) {
		one, other := c.run(), c.run()
		last := len(one) - 1
		kept := fmt.Sprintf("%+v", one)
		for _, result := range other[:last] {
			isBool(t, c.name, one[last].(bool), true)
			spoilLimits(result)
		}
		isBool(t, c.name+": an argument is changed", timesChanged() || wordsChanged() || strikesChanged(), false)
		isBool(t, c.name+": the other result is kept", fmt.Sprintf("%+v", one) == kept, true)
		isBool(t, c.name+": the next result is the same", fmt.Sprintf("%+v", c.run()) == kept, true)
	}
}

// Promise 1 for limits: nil and an empty list are the same argument.
func TestNilIsAnEmptyListOfLimits(t *testing.T) {
	empty := goodLimits([]int64{}, []string{}, []impl.Strike{})
	for i, c := range goodLimits(nil, nil, nil) {
		one, other := c.run(), empty[i].run()
		isBool(t, c.name, fmt.Sprintf("%+v", one) == fmt.Sprintf("%+v", other), true)
		if len(one) > 1 {
			isBool(t, c.name+" succeeds", one[len(one)-1].(bool), true)
		}
	}
}

// spareHistory is spare for all lists of a history.
func spareHistory(h impl.History) (impl.History, func() bool) {
	base, baseChanged := spareLog(h.Base)
	events, eventsChanged := spare(h.Events, liked(-5, -5), liked(10, 50), posted(23, 7, 10, "x", 0))
	return impl.History{Base: base, Events: events}, func() bool { return baseChanged() || eventsChanged() }
}

// goodEventCalls are calls of all functions of chapter 7 that return lists; they succeed for day and for the log at its end.
func goodEventCalls(h impl.History, end impl.Log) []call {
	calls := slices.Concat(
		eventsOf(h.Base, h.Events[0], h.Events), eventsOf(h.Base, liked(3, 7), nil), eventsOf(end, edited(22, impl.MaxMember, "x"), h.Events[:0]), eventsOf(end, takenBack(20, 7), []impl.Event{unliked(13, 8)}),
		eventsOf(end, unliked(13, 7), []impl.Event{liked(10, 9)}),
		syncsOf(h.Base, h.Events, end)[:3], syncsOf(end, []impl.Event{liked(10, 9)}, h.Base)[:3], syncsOf(end, nil, end)[:3])
	for _, count := range []int64{0, 1, 8, 15, 16} {
		calls = append(calls, historyOf(h, liked(10, 9), count)[1:]...)
	}
	return append(calls, historyOf(h, liked(10, 9), -1)[4], historyOf(impl.History{Base: h.Base}, liked(10, 9), 0)[2], historyOf(impl.History{Base: end}, liked(10, 9), -1)[4])
}

// Promise 1 for events: no function of chapter 7 modifies an argument.
func TestEventsStayAsTheyAre(t *testing.T) {
	rounds := rand.New(rand.NewSource(27))
	events, counts := oddEvents(), eventCounts()
	for _, odd := range oddHistories() {
		if len(odd.Events)+len(odd.Base.Messages) > 150 {
			continue
		}
		h, changed := spareHistory(odd)
		other, otherChanged := spareLog(endOfDay())
		var calls []call
		for range 20 {
			one, count := events[rounds.Intn(len(events))], counts[rounds.Intn(15)]
			calls = append(calls, historyOf(h, one, count)...)
			calls = append(calls, eventsOf(h.Base, one, h.Events)...)
			calls = append(calls, syncsOf(h.Base, h.Events, other)...)
			calls = append(calls, syncsOf(other, h.Events[:rounds.Intn(len(h.Events)+1)], h.Base)...)
		}
		for _, c := range calls {
			c.run()
		}
		isBool(t, historyText(odd)+" is changed", changed(), false)
		isBool(t, "the other log is changed", otherChanged(), false)
	}
	h, changed := spareHistory(day())
	end, endChanged := spareLog(endOfDay())
	for _, c := range goodEventCalls(h, end) {
		c.run()
		isBool(t, c.name+" changes the history", changed(), false)
		isBool(t, c.name+" changes the log", endChanged(), false)
	}
}

// spoilEvents writes into all memory of what a function of chapter 7 returns.
func spoilEvents(result any) {
	switch r := result.(type) {
	case impl.Log:
		spoilAll(r)
	case []impl.Event:
		spoil(r, liked(-7, -7))
	case impl.History:
		spoilAll(r.Base)
		spoilEvents(r.Events)
	case impl.Sync:
		spoilAll(r.Whole)
		spoilEvents(r.Events)
	}
}

// Promise 1 for events: each list of a result is new memory.
func TestEventsAreNewMemory(t *testing.T) {
	h, changed := spareHistory(day())
	end, endChanged := spareLog(endOfDay())
	for _, c := range goodEventCalls(h, end) {
		one, other := c.run(), c.run()
		isBool(t, c.name, one[len(one)-1].(bool), true)
		kept := fmt.Sprintf("%+v", one)
		spoilEvents(other[0])
		isBool(t, c.name+": an argument is changed", changed() || endChanged(), false)
		isBool(t, c.name+": the other result is kept", fmt.Sprintf("%+v", one) == kept, true)
		isBool(t, c.name+": the next result is the same", fmt.Sprintf("%+v", c.run()) == kept, true)
	}
}

// logsIn returns the logs of what a function of chapter 7 returns, one or none.
func logsIn(result any) []impl.Log {
	switch r := result.(type) {
	case impl.Log:
		return []impl.Log{r}
	case impl.History:
		return []impl.Log{r.Base}
	case impl.Sync:
		return []impl.Log{r.Whole}
	}
	return nil
}

// Promise 1 for events: no two lists of one result share memory.
func TestListsOfEventsAreApart(t *testing.T) {
	for _, c := range goodEventCalls(day(), endOfDay()) {
		for _, l := range logsIn(c.run()[0]) {
			for i, m := range l.Messages {
				others := but(l, func(l *impl.Log) { l.Messages = slices.Delete(l.Messages, i, i+1) })
				overwrite(m.Likes)
				rest := impl.Log{Next: l.Next, Messages: slices.Delete(slices.Clone(l.Messages), i, i+1)}
				isLog(t, c.name+": the other messages", rest, true, others)
			}
		}
	}
}

// Promise 1 for events: nil and an empty list are the same in a history and in a sync.
func TestNilIsAnEmptyListOfEvents(t *testing.T) {
	nothing, empty := impl.Log{Next: 1}, impl.Log{Next: 1, Messages: []impl.Message{}}
	none := slices.Concat(historyOf(impl.History{Base: nothing}, posted(1, 7, 5, "x", 0), 0), eventsOf(nothing, posted(1, 7, 5, "x", 0), nil), syncsOf(nothing, nil, nothing))
	others := slices.Concat(historyOf(impl.History{Base: empty, Events: []impl.Event{}}, posted(1, 7, 5, "x", 0), 0), eventsOf(empty, posted(1, 7, 5, "x", 0), []impl.Event{}), syncsOf(empty, []impl.Event{}, empty))
	for i, c := range none {
		one, other := c.run(), others[i].run()
		isBool(t, c.name, fmt.Sprintf("%+v", one) == fmt.Sprintf("%+v", other), true)
		isBool(t, c.name+" succeeds", one[len(one)-1].(bool), i < len(none)-4)
	}
}

// spareIndex is spare for all lists of an index.
func spareIndex(ix impl.Index) (impl.Index, func() bool) {
	whole := copyOfIndex(impl.Index{Entries: append(slices.Clone(ix.Entries), entry("spare", -5), entry("zzz", 1))})
	entries := len(ix.Entries)
	for i, e := range whole.Entries[:entries] {
		whole.Entries[i].Numbers = append(slices.Clone(e.Numbers), -7, 5, impl.MaxValue)[:len(e.Numbers)]
	}
	// What is compared has the unused capacity of the lists too.
	text := func() string {
		all := copyOfIndex(whole)
		for i, e := range whole.Entries {
			all.Entries[i].Numbers = slices.Clone(e.Numbers[:cap(e.Numbers)])
		}
		return indexText(all)
	}
	kept := text()
	return impl.Index{Entries: whole.Entries[:entries]}, func() bool { return text() != kept }
}

// goodSearches are calls of all functions of chapter 8 that return lists; they succeed for petIndex and for pets.
func goodSearches(ix impl.Index, l impl.Log, words []string) []call {
	var calls []call
	for _, m := range []impl.Message{l.Messages[0], l.Messages[1], l.Messages[3], said(2, 7, 0, "Big dog zebra", 0), said(12, 7, 0, "dogs and dogs", 0)} {
		calls = append(calls, indicesOf(ix, m, m.Number)...)
		calls = append(calls, ranksOf(l, m, words, 105, m.Number)[:3]...)
		calls = append(calls, findsOf(ix, words, words[0], m.Number)...)
		calls = append(calls, findsOf(ix, words[:1], words[1], 300)...)
		calls = append(calls, ranksOf(l, m, words[:1], 105, 40)[:3]...)
	}
	for _, word := range []string{"7", "fish", "dog", "dogs"} {
		calls = append(calls, findsOf(ix, []string{word, "big"}, word, 0)...)
	}
	return append(calls, findsOf(ix, words, "", 2)[1], indicesOf(ix, l.Messages[0], 4)[1])
}

// Promise 1 for search: no function of chapter 8 modifies an argument.
func TestSearchLeavesAllAsItIs(t *testing.T) {
	rounds := rand.New(rand.NewSource(33))
	pick := func() int64 { return searchNumbers()[rounds.Intn(len(searchNumbers()))] }
	l, logChanged := spareLog(pets())
	for i, odd := range oddIndices() {
		ix, changed := spareIndex(odd)
		for _, query := range oddQueries()[:8] {
			words, wordsChanged := spare(query, "", "zzz", "big")
			for range 3 {
				m := l.Messages[rounds.Intn(8)]
				calls := slices.Concat(indicesOf(ix, m, pick()), findsOf(ix, words, words[0], pick()), ranksOf(l, m, words, 105+pick()%1000, pick()), marksOf(m.Text, words, pick()))
				for _, c := range calls {
					c.run()
				}
				impl.ValidIndex(ix)
				impl.SameIndex(ix, petIndex())
			}
			isBool(t, fmt.Sprint("the words ", query, " are changed"), wordsChanged(), false)
		}
		isBool(t, fmt.Sprint("the index ", i, " is changed"), changed(), false)
	}
	isBool(t, "the log is changed", logChanged(), false)
	for _, odd := range oddQueries() {
		words, wordsChanged := spare(odd, "", "zzz", "big")
		for _, c := range slices.Concat(findsOf(petIndex(), words, "dog", 5), ranksOf(pets(), l.Messages[0], words, 105, 5), marksOf("Big cat, big dog", words, 5)) {
			c.run()
		}
		isBool(t, fmt.Sprintf("the words %.100q are changed", odd), wordsChanged(), false)
	}
}

// spoilSearch writes into all memory of what a function of chapter 8 returns.
func spoilSearch(result any) {
	switch r := result.(type) {
	case impl.Index:
		for _, e := range r.Entries {
			overwrite(e.Numbers)
		}
		spoil(r.Entries, entry("spoiled", -7))
	case []string:
		spoil(r, "spoiled")
	case []int64:
		overwrite(r)
	}
}

// Promise 1 for search: each list of a result is new memory.
func TestSearchesAreNewMemory(t *testing.T) {
	ix, changed := spareIndex(petIndex())
	l, logChanged := spareLog(pets())
	words, wordsChanged := spare([]string{"dog", "big"}, "", "cat")
	for _, c := range goodSearches(ix, l, words) {
		one, other := c.run(), c.run()
		isBool(t, c.name, one[1].(bool), true)
		kept := fmt.Sprintf("%+v", one)
		spoilSearch(other[0])
		isBool(t, c.name+": an argument is changed", changed() || logChanged() || wordsChanged(), false)
		isBool(t, c.name+": the other result is kept", fmt.Sprintf("%+v", one) == kept, true)
		isBool(t, c.name+": the next result is the same", fmt.Sprintf("%+v", c.run()) == kept, true)
	}
}

// Promise 1 for search: no two lists of one result share memory.
func TestListsOfAnIndexAreApart(t *testing.T) {
	for _, c := range goodSearches(petIndex(), pets(), []string{"dog", "big"}) {
		ix, ok := c.run()[0].(impl.Index)
		for i := range ix.Entries {
			others := copyOfIndex(ix)
			overwrite(ix.Entries[i].Numbers)
			others.Entries[i] = ix.Entries[i]
			isIndex(t, c.name+": the other entries", ix, ok, others)
		}
	}
}

// Promise 1 for search: nil and an empty list are the same argument.
func TestNilIsAnEmptyListOfSearch(t *testing.T) {
	empty, nothing := impl.Index{Entries: []impl.Entry{}}, impl.Log{Next: 1, Messages: []impl.Message{}}
	isBool(t, "ValidIndex", impl.ValidIndex(empty) && impl.ValidIndex(impl.Index{}), true)
	m, same := said(1, 7, 0, "dog", 0), said(1, 7, 0, "dog", 0)
	same.Likes = []int64{}
	for _, words := range [][]string{{"dog"}, {"big", "cat"}} {
		none := slices.Concat(indicesOf(impl.Index{}, m, 5), findsOf(impl.Index{}, words, "dog", 5), ranksOf(impl.Log{Next: 1}, m, words, 0, 5))
		others := slices.Concat(indicesOf(empty, same, 5), findsOf(empty, words, "dog", 5), ranksOf(nothing, same, words, 0, 5))
		for i, c := range none {
			one, other := c.run(), others[i].run()
			isBool(t, c.name, fmt.Sprintf("%+v", one) == fmt.Sprintf("%+v", other), true)
			isBool(t, c.name+" succeeds", one[1].(bool), true)
		}
	}
	for _, words := range [][]string{nil, {}} {
		for _, c := range slices.Concat(findsOf(petIndex(), words, "dog", 5)[3:], ranksOf(pets(), m, words, 105, 5)[1:], marksOf("a dog", words, 5)) {
			isBool(t, c.name+" without words", c.run()[1].(bool), false)
		}
	}
}

// goodBlockCalls are calls of all functions of chapter 9 that return lists; they succeed for chores, talk and its blocks.
func goodBlockCalls(list []impl.Reminder, l impl.Log, pins []int64, blocks []impl.Block) []call {
	var calls []call
	for _, now := range []int64{0, 5, 15, 30, impl.MaxTick} {
		calls = append(calls, duesOf(list, now)[0], duesOf(list[:0], now)[0])
	}
	for _, keep := range []int64{1, 3, 8, impl.MaxMessages} {
		calls = append(calls, sweepsOf(l, 10, 3, keep, pins)...)
		calls = append(calls, sweepsOf(l, 10, 9, keep, pins[:0])[0], sweepsOf(l, 100, 0, keep, pins[:1])[0])
	}
	calls = append(calls, sweepsOf(l, 9, impl.MaxTick, 0, pins)[:3]...)
	for i := range len(blocks) + 1 {
		calls = append(calls, importsOf(blocks[:i], l.Next)[0])
	}
	for _, line := range []string{"2,7,0,0,0,0 8,9 hello", "3,8,2,0,0,2 none hi @7"} {
		calls = append(calls, call{"ReadLine", func() []any { m, ok := impl.ReadLine(line); return []any{m, ok} }})
	}
	return calls
}

// Promise 1 for blocks: no function of chapter 9 modifies an argument.
func TestBlocksStayAsTheyAre(t *testing.T) {
	rounds := rand.New(rand.NewSource(39))
	pick := func() int64 { return sweepNumbers()[rounds.Intn(len(sweepNumbers()))] }
	for _, odd := range oddReminderLists() {
		list, changed := spare(odd, reminder(-5, -5, -5, -5, -5), reminder(7, 1, 0, 1, 2))
		for range 20 {
			for _, c := range duesOf(list, pick()) {
				c.run()
			}
		}
		isBool(t, fmt.Sprintf("the reminders %.100v are changed", fmt.Sprint(odd)), changed(), false)
	}
	for _, odd := range append(oddLogs(), longLog(), pets()) {
		if len(odd.Messages) > 100 {
			continue
		}
		l, changed := spareLog(odd)
		pins, pinsChanged := spare([]int64{2, 5, 13}, 1, 14, -5)
		for range 50 {
			for _, c := range sweepsOf(l, pick(), pick(), pick(), pins[:rounds.Intn(4)]) {
				c.run()
			}
		}
		for _, m := range l.Messages {
			impl.MessageLine(m)
		}
		isBool(t, logText(odd)+" is changed", changed() || pinsChanged(), false)
	}
	for i, odd := range oddBlockLists() {
		blocks, changed := spare(odd, impl.Block{From: -5}, sealed(linesOf(talk().Messages...)...)[7])
		for _, c := range importsOf(blocks, 20) {
			c.run()
		}
		isBool(t, fmt.Sprint("the blocks ", i, " are changed"), changed(), false)
	}
}

// spoilBlocks writes into all memory of what a function of chapter 9 returns.
func spoilBlocks(result any) {
	switch r := result.(type) {
	case []impl.Reminder:
		spoil(r, reminder(-7, -7, -7, -7, -7))
	case []impl.Block:
		spoil(r, impl.Block{Before: "spoiled", From: -7})
	default:
		spoilAll(r)
	}
}

// Promise 1 for blocks: each list of a result is new memory.
func TestBlocksAreNewMemory(t *testing.T) {
	list, listChanged := spare(chores(), reminder(7, 1, 0, 1, 2), reminder(7, 1, 100, 1, 2))
	l, logChanged := spareLog(talk())
	pins, pinsChanged := spare([]int64{2, 5, 13}, 14, 15)
	blocks, blocksChanged := spare(sealed(bodiesOf(talk(), 3)...), impl.Block{From: 14}, impl.Block{From: -5})
	for _, c := range goodBlockCalls(list, l, pins, blocks) {
		one, other := c.run(), c.run()
		last := len(one) - 1
		isBool(t, c.name, one[last].(bool), true)
		kept := fmt.Sprintf("%+v", one)
		for _, result := range other[:last] {
			spoilBlocks(result)
		}
		isBool(t, c.name+": an argument is changed", listChanged() || logChanged() || pinsChanged() || blocksChanged(), false)
		isBool(t, c.name+": the other result is kept", fmt.Sprintf("%+v", one) == kept, true)
		isBool(t, c.name+": the next result is the same", fmt.Sprintf("%+v", c.run()) == kept, true)
	}
}

// Promise 1 for blocks: no two lists of one result share memory.
func TestListsOfBlocksAreApart(t *testing.T) {
	fired, left, _ := impl.DueReminders(chores(), 15)
	for i, row := range fired {
		others := fmt.Sprint(fired[:i], fired[i+1:], left)
		overwrite(row)
		isBool(t, fmt.Sprint("the rows beside ", i), fmt.Sprint(fired[:i], fired[i+1:], left) == others, true)
	}
	for _, c := range goodBlockCalls(chores(), talk(), []int64{2, 5, 13}, sealed(bodiesOf(talk(), 3)...)) {
		for _, l := range logsIn(c.run()[0]) {
			for i, m := range l.Messages {
				others := but(l, func(l *impl.Log) { l.Messages = slices.Delete(l.Messages, i, i+1) })
				overwrite(m.Likes)
				rest := impl.Log{Next: l.Next, Messages: slices.Delete(slices.Clone(l.Messages), i, i+1)}
				isLog(t, c.name+": the other messages", rest, true, others)
			}
		}
	}
}

// Promise 1 for blocks: nil and an empty list are the same argument.
func TestNilIsAnEmptyListOfBlocks(t *testing.T) {
	empty := but(talk(), func(l *impl.Log) {
		for i := range l.Messages {
			l.Messages[i].Likes = append([]int64{}, l.Messages[i].Likes...)
		}
	})
	none := slices.Concat(duesOf(nil, 5), sweepsOf(talk(), 10, 3, 2, nil), sweepsOf(impl.Log{Next: 5}, 10, 3, 2, nil), importsOf(nil, 5))
	others := slices.Concat(duesOf([]impl.Reminder{}, 5), sweepsOf(empty, 10, 3, 2, []int64{}), sweepsOf(impl.Log{Next: 5, Messages: []impl.Message{}}, 10, 3, 2, []int64{}), importsOf([]impl.Block{}, 5))
	for i, c := range none {
		one, other := c.run(), others[i].run()
		isBool(t, c.name, fmt.Sprintf("%+v", one) == fmt.Sprintf("%+v", other), true)
		// There is no next reminder, and no bad block.
		isBool(t, c.name+" succeeds", one[len(one)-1].(bool), c.name != "NextReminder" && c.name != "FirstBad")
	}
}
