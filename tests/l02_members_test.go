package tests

import (
	"fmt"
	"math"
	"math/rand"
	"slices"
	"testing"

	"loop.example/g01202/impl"
)

func member(id, role, since, quiet int64) impl.Member {
	return impl.Member{Id: id, Role: role, Since: since, Quiet: quiet}
}

func invite(id, by, until int64) impl.Invite { return impl.Invite{Id: id, By: by, Until: until} }

func ban(id, until int64) impl.Ban { return impl.Ban{Id: id, Until: until} }

// houseOf returns a closed room with two members of each role, two invites and two bans.
func houseOf() impl.Room {
	return impl.Room{
		Members: []impl.Member{
			member(1, impl.RoleOwner, 5, 0), member(2, impl.RoleOwner, 4, 0), member(11, impl.RoleHelper, 3, 0), member(12, impl.RoleHelper, 3, 0),
			member(21, impl.RoleMember, 2, 0), member(22, impl.RoleMember, 2, 0), member(31, impl.RoleGuest, 1, 0), member(32, impl.RoleGuest, 1, 0),
		},
		Invites: []impl.Invite{invite(40, 1, 50), invite(41, 21, 60)},
		Bans:    []impl.Ban{ban(50, 100), ban(51, 200)},
	}
}

// with returns a room that is changed in one way.
func with(r impl.Room, change func(r *impl.Room)) impl.Room {
	r = copyOfRoom(r)
	change(&r)
	return r
}

func copyOfRoom(r impl.Room) impl.Room {
	r.Members, r.Invites, r.Bans = slices.Clone(r.Members), slices.Clone(r.Invites), slices.Clone(r.Bans)
	return r
}

// fullRoom has as many members, invites and bans as a room may have; all Ids up to 64 are taken.
func fullRoom() impl.Room {
	r := impl.Room{Open: true}
	for id := int64(1); id <= impl.MaxMembers; id++ {
		r.Members = append(r.Members, member(id, impl.RoleMember, id, 0))
	}
	r.Members[0].Role = impl.RoleOwner
	for id := int64(33); id < 33+impl.MaxInvites; id++ {
		r.Invites = append(r.Invites, invite(id, 1, 100))
	}
	for id := int64(49); id < 49+impl.MaxBans; id++ {
		r.Bans = append(r.Bans, ban(id, 100))
	}
	return r
}

// roomText writes a room out; an empty list and nil are the same.
func roomText(r impl.Room) string { return fmt.Sprintf("%+v", r) }

func isRoom(t *testing.T, what string, got impl.Room, ok bool, want impl.Room) {
	t.Helper()
	if !ok || roomText(got) != roomText(want) {
		t.Errorf("%s: got %v %v, want %v true", what, roomText(got), ok, roomText(want))
	}
}

func isNoRoom(t *testing.T, what string, got impl.Room, ok bool) {
	t.Helper()
	isRoom(t, what, got, !ok, impl.Room{})
}

func indexOf(r impl.Room, id int64) int {
	return slices.IndexFunc(r.Members, func(m impl.Member) bool { return m.Id == id })
}

func roleIn(r impl.Room, id int64) int64 { return r.Members[indexOf(r, id)].Role }

func without(r impl.Room, id int64) impl.Room {
	return with(r, func(r *impl.Room) {
		r.Members = slices.DeleteFunc(r.Members, func(m impl.Member) bool { return m.Id == id })
	})
}

// The examples of chapter 2.
func TestExamplesOfRooms(t *testing.T) {
	for _, open := range []bool{true, false} {
		r, ok := impl.NewRoom(5, 0, open)
		isBool(t, "NewRoom", ok, true)
		for id := int64(0); id <= impl.MaxMember+1; id++ {
			isBool(t, fmt.Sprint(id, " may write"), impl.IsAllowed(r, id, impl.ActWrite, 0), id == 5)
		}
		in, ok := impl.JoinRoom(r, 7, 10)
		isBool(t, "7 joins", ok, open)
		left, ok := impl.LeaveRoom(in, 5)
		isBool(t, "5 leaves", ok, open)
		if open {
			isRoom(t, "7 is left", left, ok, impl.Room{Open: true, Members: []impl.Member{member(7, impl.RoleOwner, 10, 0)}})
		}
	}
}

func TestConstantsOfRooms(t *testing.T) {
	roles := []int64{impl.RoleGuest, impl.RoleMember, impl.RoleHelper, impl.RoleOwner}
	isList(t, "roles", roles, true, 0, 1, 2, 3)
	acts := []int64{impl.ActRead, impl.ActLike, impl.ActWrite, impl.ActInvite, impl.ActMute, impl.ActTake, impl.ActBan, impl.ActRole, impl.ActClose}
	isList(t, "acts", acts, true, 0, 1, 2, 3, 4, 5, 6, 7, 8)
	isList(t, "limits", []int64{impl.MaxMembers, impl.MaxInvites, impl.MaxBans}, true, 32, 16, 16)
}

func TestValidRoom(t *testing.T) {
	for name, change := range map[string]func(r *impl.Room){
		"as it is":       func(r *impl.Room) {},
		"open":           func(r *impl.Room) { r.Open = true },
		"no invites":     func(r *impl.Room) { r.Invites = nil },
		"no bans":        func(r *impl.Room) { r.Bans = []impl.Ban{} },
		"one owner":      func(r *impl.Room) { r.Members = r.Members[:1] },
		"owner is last":  func(r *impl.Room) { r.Members = append(r.Members[2:], member(39, impl.RoleOwner, 0, 0)) },
		"the first Id":   func(r *impl.Room) { r.Members[0].Id = 1 },
		"the last Id":    func(r *impl.Room) { r.Members[7].Id = impl.MaxMember },
		"the last ban":   func(r *impl.Room) { r.Bans[1].Id = impl.MaxMember },
		"first ticks":    func(r *impl.Room) { r.Members[3].Since, r.Invites[0].Until, r.Bans[0].Until = 0, 0, 0 },
		"last ticks":     func(r *impl.Room) { r.Members[3].Since, r.Members[3].Quiet = impl.MaxTick, impl.MaxTick },
		"last untils":    func(r *impl.Room) { r.Invites[0].Until, r.Bans[0].Until = impl.MaxTick, impl.MaxTick },
		"By of nobody":   func(r *impl.Room) { r.Invites[0].By, r.Invites[1].By = 1, impl.MaxMember },
		"By is itself":   func(r *impl.Room) { r.Invites[0].By = 40 },
		"By is a ban":    func(r *impl.Room) { r.Invites[0].By = 50 },
		"quiet first":    func(r *impl.Room) { r.Members[3].Since, r.Members[3].Quiet = 9, 3 },
		"bans are first": func(r *impl.Room) { r.Bans[0].Id, r.Bans[1].Id = 3, 23 },
		"all is full":    func(r *impl.Room) { *r = fullRoom() },
	} {
		isBool(t, name, impl.ValidRoom(with(houseOf(), change)), true)
	}
}

func TestRoomsThatAreNotValid(t *testing.T) {
	isBool(t, "the empty room", impl.ValidRoom(impl.Room{}), false)
	for name, change := range map[string]func(r *impl.Room){
		"no members":           func(r *impl.Room) { r.Members = nil },
		"no owner":             func(r *impl.Room) { r.Members = r.Members[2:] },
		"members as great":     func(r *impl.Room) { r.Members[1].Id = 1 },
		"members fall":         func(r *impl.Room) { r.Members[2].Id, r.Members[3].Id = 12, 11 },
		"member 0":             func(r *impl.Room) { r.Members[0].Id = 0 },
		"member below 0":       func(r *impl.Room) { r.Members[0].Id = math.MinInt64 },
		"member 1001":          func(r *impl.Room) { r.Members[7].Id = impl.MaxMember + 1 },
		"role 4":               func(r *impl.Room) { r.Members[4].Role = 4 },
		"role -1":              func(r *impl.Room) { r.Members[4].Role = -1 },
		"Since -1":             func(r *impl.Room) { r.Members[4].Since = -1 },
		"Since too great":      func(r *impl.Room) { r.Members[4].Since = impl.MaxTick + 1 },
		"Quiet -1":             func(r *impl.Room) { r.Members[4].Quiet = -1 },
		"Quiet too great":      func(r *impl.Room) { r.Members[4].Quiet = impl.MaxTick + 1 },
		"invites as great":     func(r *impl.Room) { r.Invites[1].Id = 40 },
		"invites fall":         func(r *impl.Room) { r.Invites[0].Id = 42 },
		"invite 0":             func(r *impl.Room) { r.Invites[0].Id = 0 },
		"invite 1001":          func(r *impl.Room) { r.Invites[1].Id = impl.MaxMember + 1 },
		"invite of a member":   func(r *impl.Room) { r.Invites[0].Id = 21 },
		"By 0":                 func(r *impl.Room) { r.Invites[0].By = 0 },
		"By 1001":              func(r *impl.Room) { r.Invites[0].By = impl.MaxMember + 1 },
		"invite until -1":      func(r *impl.Room) { r.Invites[0].Until = -1 },
		"invite until too far": func(r *impl.Room) { r.Invites[1].Until = impl.MaxTick + 1 },
		"bans as great":        func(r *impl.Room) { r.Bans[1].Id = 50 },
		"bans fall":            func(r *impl.Room) { r.Bans[0].Id = 52 },
		"ban 0":                func(r *impl.Room) { r.Bans[0].Id = 0 },
		"ban 1001":             func(r *impl.Room) { r.Bans[1].Id = impl.MaxMember + 1 },
		"ban of a member":      func(r *impl.Room) { r.Bans[0].Id = 32 },
		"ban of an invited":    func(r *impl.Room) { r.Bans[0].Id = 41 },
		"ban until -1":         func(r *impl.Room) { r.Bans[0].Until = -1 },
		"ban until too far":    func(r *impl.Room) { r.Bans[0].Until = impl.MaxTick + 1 },
	} {
		isBool(t, name, impl.ValidRoom(with(houseOf(), change)), false)
	}
	for name, change := range map[string]func(r *impl.Room){
		"33 members": func(r *impl.Room) { r.Members = append(r.Members, member(90, 1, 0, 0)); r.Invites, r.Bans = nil, nil },
		"17 invites": func(r *impl.Room) { r.Invites = append(r.Invites, invite(90, 1, 0)) },
		"17 bans":    func(r *impl.Room) { r.Bans = append(r.Bans, ban(90, 0)) },
	} {
		isBool(t, name, impl.ValidRoom(with(fullRoom(), change)), false)
	}
}

func TestSameRoom(t *testing.T) {
	for name, change := range map[string]func(r *impl.Room){
		"Open": func(r *impl.Room) { r.Open = true }, "Id": func(r *impl.Room) { r.Members[7].Id++ }, "Role": func(r *impl.Room) { r.Members[2].Role++ },
		"Since": func(r *impl.Room) { r.Members[0].Since++ }, "Quiet": func(r *impl.Room) { r.Members[0].Quiet++ },
		"Id of an invite": func(r *impl.Room) { r.Invites[1].Id++ }, "By": func(r *impl.Room) { r.Invites[0].By++ }, "Until of an invite": func(r *impl.Room) { r.Invites[0].Until++ },
		"Id of a ban": func(r *impl.Room) { r.Bans[1].Id++ }, "Until of a ban": func(r *impl.Room) { r.Bans[0].Until++ },
		"a member less": func(r *impl.Room) { r.Members = r.Members[:7] }, "an invite less": func(r *impl.Room) { r.Invites = r.Invites[:1] }, "no invite": func(r *impl.Room) { r.Invites = nil },
		"a ban less": func(r *impl.Room) { r.Bans = r.Bans[1:] }, "no ban": func(r *impl.Room) { r.Bans = nil }, "no member": func(r *impl.Room) { r.Members = nil },
		"another order": func(r *impl.Room) { slices.Reverse(r.Members) },
	} {
		other := with(houseOf(), change)
		isBool(t, name, impl.SameRoom(houseOf(), other), false)
		isBool(t, name, impl.SameRoom(other, houseOf()), false)
		isBool(t, name+" in both", impl.SameRoom(other, with(houseOf(), change)), true)
	}
	isBool(t, "a house", impl.SameRoom(houseOf(), houseOf()), true)
	empty := impl.Room{Members: []impl.Member{}, Invites: []impl.Invite{}, Bans: []impl.Ban{}}
	isBool(t, "empty lists", impl.SameRoom(empty, impl.Room{}), true)
	isBool(t, "empty lists, open", impl.SameRoom(empty, impl.Room{Open: true}), false)
	odd := impl.Room{Members: []impl.Member{member(-1, 9, -5, math.MaxInt64), member(-1, 9, -5, math.MaxInt64)}}
	isBool(t, "rooms that are not valid", impl.SameRoom(odd, copyOfRoom(odd)), true)
}

func TestNewRoom(t *testing.T) {
	for _, owner := range []int64{1, 5, impl.MaxMember} {
		for _, at := range []int64{0, 17, impl.MaxTick} {
			for _, open := range []bool{true, false} {
				r, ok := impl.NewRoom(owner, at, open)
				isRoom(t, "a new room", r, ok, impl.Room{Open: open, Members: []impl.Member{member(owner, impl.RoleOwner, at, 0)}})
			}
		}
	}
	for _, c := range [][2]int64{{0, 0}, {-1, 5}, {impl.MaxMember + 1, 5}, {5, -1}, {5, impl.MaxTick + 1}, {math.MaxInt64, math.MinInt64}} {
		r, ok := impl.NewRoom(c[0], c[1], true)
		isNoRoom(t, fmt.Sprint(c), r, ok)
	}
}

func TestRoleOf(t *testing.T) {
	for id, want := range map[int64]int64{1: 3, 2: 3, 11: 2, 12: 2, 21: 1, 22: 1, 31: 0, 32: 0} {
		role, ok := impl.RoleOf(houseOf(), id)
		isValue(t, fmt.Sprint(id), role, ok, want)
	}
	for _, id := range []int64{0, 3, 40, 41, 50, -1, impl.MaxMember, impl.MaxMember + 1, math.MinInt64} {
		role, ok := impl.RoleOf(houseOf(), id)
		isNothing(t, fmt.Sprint(id), role, ok)
	}
	role, ok := impl.RoleOf(without(without(houseOf(), 1), 2), 11)
	isNothing(t, "a room without owners", role, ok)
	role, ok = impl.RoleOf(impl.Room{}, 0)
	isNothing(t, "the empty room", role, ok)
}

// allowedTo lists, by role, what the document tells that the roles may do.
func allowedTo() [][]int64 {
	guest := []int64{impl.ActRead, impl.ActLike}
	writer := append(slices.Clone(guest), impl.ActWrite, impl.ActInvite)
	helper := append(slices.Clone(writer), impl.ActMute, impl.ActTake, impl.ActBan)
	owner := append(slices.Clone(helper), impl.ActRole, impl.ActClose)
	return [][]int64{guest, writer, helper, owner}
}

// Promise 3: roles allow just what they are told to.
func TestRoleMay(t *testing.T) {
	for role, acts := range allowedTo() {
		for act := int64(-2); act < 12; act++ {
			isBool(t, fmt.Sprint("role ", role, ", act ", act), impl.RoleMay(int64(role), act), slices.Contains(acts, act))
		}
		for _, act := range []int64{math.MinInt64, math.MaxInt64, 1 << 32} {
			isBool(t, fmt.Sprint("act ", act), impl.RoleMay(int64(role), act), false)
		}
	}
	for _, role := range []int64{-1, 4, 5, math.MinInt64, math.MaxInt64} {
		for act := int64(-2); act < 12; act++ {
			isBool(t, fmt.Sprint("role ", role, ", act ", act), impl.RoleMay(role, act), false)
		}
	}
}

// Promise 3, at a tick: who is quiet may only read, up to the tick at which Quiet is over.
func TestIsAllowed(t *testing.T) {
	r := with(houseOf(), func(r *impl.Room) {
		for i := range r.Members {
			r.Members[i].Quiet = 30 * int64(i%2)
		}
	})
	for _, m := range r.Members {
		for act := int64(-1); act <= 9; act++ {
			for _, at := range []int64{0, 29, 30, 31, impl.MaxTick} {
				want := slices.Contains(allowedTo()[m.Role], act) && (act == impl.ActRead || m.Quiet <= at)
				isBool(t, fmt.Sprint(m, act, at), impl.IsAllowed(r, m.Id, act, at), want)
			}
			for _, at := range []int64{-1, impl.MaxTick + 1, math.MinInt64, math.MaxInt64} {
				isBool(t, fmt.Sprint(m, act, at), impl.IsAllowed(r, m.Id, act, at), false)
			}
		}
	}
	for _, id := range []int64{0, 3, 40, 50, -1, impl.MaxMember + 1} {
		isBool(t, fmt.Sprint(id, " reads"), impl.IsAllowed(r, id, impl.ActRead, 30), false)
	}
	isBool(t, "a room that is not valid", impl.IsAllowed(with(r, func(r *impl.Room) { r.Bans[0].Id = 1 }), 1, impl.ActRead, 30), false)
}

// Promise 3: of all pairs of members, only those with a greater role whose role may do it do something to the other one.
func TestRolesOfBoth(t *testing.T) {
	r := houseOf()
	for _, by := range r.Members {
		for _, other := range r.Members {
			greater := by.Role > other.Role
			_, muted := impl.MuteMember(r, by.Id, other.Id, 9, 7)
			isBool(t, fmt.Sprint(by.Id, " mutes ", other.Id), muted, greater && by.Role >= impl.RoleHelper)
			_, banned := impl.BanMember(r, by.Id, other.Id, 9, 7)
			isBool(t, fmt.Sprint(by.Id, " bans ", other.Id), banned, greater && by.Role >= impl.RoleHelper)
			for role := int64(0); role < 4; role++ {
				_, given := impl.GiveRole(r, by.Id, other.Id, role, 7)
				isBool(t, fmt.Sprint(by.Id, " gives ", other.Id, " the role ", role), given, greater && by.Role == impl.RoleOwner)
			}
			_, invited := impl.InviteTo(r, by.Id, other.Id, 9, 7)
			isBool(t, fmt.Sprint(by.Id, " invites ", other.Id), invited, false)
		}
		_, invited := impl.InviteTo(r, by.Id, 70, 9, 7)
		isBool(t, fmt.Sprint(by.Id, " invites 70"), invited, by.Role >= impl.RoleMember)
		_, banned := impl.BanMember(r, by.Id, 70, 9, 7)
		isBool(t, fmt.Sprint(by.Id, " bans 70"), banned, by.Role >= impl.RoleHelper)
		_, lifted := impl.LiftBan(r, by.Id, 50, 7)
		isBool(t, fmt.Sprint(by.Id, " lifts the ban of 50"), lifted, by.Role >= impl.RoleHelper)
		_, opened := impl.OpenRoom(r, by.Id, true, 7)
		isBool(t, fmt.Sprint(by.Id, " opens"), opened, by.Role == impl.RoleOwner)
	}
}

// order is one of the functions that a member named by calls, with arguments with which it succeeds.
type order struct {
	name string
	by   int64
	run  func(r impl.Room, by, at int64) (impl.Room, bool)
}

func orders() []order {
	return []order{
		{"InviteTo", 21, func(r impl.Room, by, at int64) (impl.Room, bool) { return impl.InviteTo(r, by, 70, impl.MaxTick, at) }},
		{"GiveRole", 1, func(r impl.Room, by, at int64) (impl.Room, bool) { return impl.GiveRole(r, by, 31, 1, at) }},
		{"MuteMember", 11, func(r impl.Room, by, at int64) (impl.Room, bool) { return impl.MuteMember(r, by, 31, 40, at) }},
		{"BanMember", 11, func(r impl.Room, by, at int64) (impl.Room, bool) {
			return impl.BanMember(r, by, 31, impl.MaxTick, at)
		}},
		{"LiftBan", 11, func(r impl.Room, by, at int64) (impl.Room, bool) { return impl.LiftBan(r, by, 50, at) }},
		{"OpenRoom", 1, func(r impl.Room, by, at int64) (impl.Room, bool) { return impl.OpenRoom(r, by, true, at) }},
	}
}

// All that is done by a member needs a tick, a valid room, and a member who is not quiet then.
func TestOrdersNeedOneWhoIsAllowed(t *testing.T) {
	for _, o := range orders() {
		for _, at := range []int64{0, 7, impl.MaxTick} {
			_, ok := o.run(houseOf(), o.by, at)
			isBool(t, fmt.Sprint(o.name, " at ", at), ok, true)
		}
		for _, at := range []int64{-1, impl.MaxTick + 1, math.MinInt64, math.MaxInt64} {
			r, ok := o.run(houseOf(), o.by, at)
			isNoRoom(t, fmt.Sprint(o.name, " at ", at), r, ok)
		}
		for _, by := range []int64{0, 3, 40, 50, 70, -1, impl.MaxMember + 1, math.MaxInt64} {
			r, ok := o.run(houseOf(), by, 7)
			isNoRoom(t, fmt.Sprint(o.name, " by ", by), r, ok)
		}
		quiet := with(houseOf(), func(r *impl.Room) { r.Members[indexOf(*r, o.by)].Quiet = 20 })
		r, ok := o.run(quiet, o.by, 19)
		isNoRoom(t, o.name+" by a quiet one", r, ok)
		_, ok = o.run(quiet, o.by, 20)
		isBool(t, o.name+" when Quiet is over", ok, true)
		r, ok = o.run(with(houseOf(), func(r *impl.Room) { r.Bans[1].Id = 32 }), o.by, 7)
		isNoRoom(t, o.name+" in a room that is not valid", r, ok)
	}
}

func TestInviteTo(t *testing.T) {
	r, ok := impl.InviteTo(houseOf(), 22, 25, 30, 30)
	isRoom(t, "until the tick itself", r, ok, with(houseOf(), func(r *impl.Room) { r.Invites = slices.Insert(r.Invites, 0, invite(25, 22, 30)) }))
	r, ok = impl.InviteTo(houseOf(), 2, impl.MaxMember, impl.MaxTick, impl.MaxTick)
	isRoom(t, "the last tick", r, ok, with(houseOf(), func(r *impl.Room) { r.Invites = append(r.Invites, invite(impl.MaxMember, 2, impl.MaxTick)) }))
	r, ok = impl.InviteTo(houseOf(), 11, 40, 20, 10)
	isRoom(t, "in place of another one", r, ok, with(houseOf(), func(r *impl.Room) { r.Invites[0] = invite(40, 11, 20) }))
	r, ok = impl.InviteTo(houseOf(), 1, 41, 200, 100)
	isRoom(t, "in place of one that is over", r, ok, with(houseOf(), func(r *impl.Room) { r.Invites[1] = invite(41, 1, 200) }))
	for _, c := range []struct{ by, id, until, at int64 }{
		{1, 70, 29, 30}, {1, 70, -1, 0}, {1, 70, impl.MaxTick + 1, 0}, {1, 70, math.MinInt64, 0}, {1, 70, math.MaxInt64, 0},
		{1, 0, 9, 0}, {1, -1, 9, 0}, {1, impl.MaxMember + 1, 9, 0}, {1, 1, 9, 0}, {1, 2, 9, 0}, {1, 31, 9, 0},
		{1, 50, 9, 0}, {1, 50, 300, 100}, {1, 50, 300, 101}, {1, 51, 300, 250}, {31, 70, 9, 0}, {40, 70, 9, 0},
	} {
		r, ok := impl.InviteTo(houseOf(), c.by, c.id, c.until, c.at)
		isNoRoom(t, fmt.Sprint(c), r, ok)
	}
}

func TestInvitesUpToTheLimit(t *testing.T) {
	full := fullRoom()
	r, ok := impl.InviteTo(full, 1, 90, 9, 0)
	isNoRoom(t, "17 invites", r, ok)
	r, ok = impl.InviteTo(full, 1, 40, 9, 0)
	isRoom(t, "in place of one of 16", r, ok, with(full, func(r *impl.Room) { r.Invites[7] = invite(40, 1, 9) }))
	r, ok = impl.InviteTo(with(full, func(r *impl.Room) { r.Invites = r.Invites[:15] }), 1, 48, 100, 0)
	isRoom(t, "the invite 16", r, ok, full)
}

func TestJoinRoom(t *testing.T) {
	joined := func(i int, id, at int64) impl.Room {
		return with(houseOf(), func(r *impl.Room) {
			r.Members = append(r.Members, member(id, impl.RoleMember, at, 0))
			r.Invites = slices.Delete(r.Invites, i, i+1)
		})
	}
	for _, at := range []int64{0, 49, 50} {
		r, ok := impl.JoinRoom(houseOf(), 40, at)
		isRoom(t, fmt.Sprint("invited until 50, at ", at), r, ok, joined(0, 40, at))
	}
	r, ok := impl.JoinRoom(houseOf(), 41, 60)
	isRoom(t, "invited until 60, at 60", r, ok, joined(1, 41, 60))
	for _, c := range [][2]int64{
		{40, 51}, {40, impl.MaxTick}, {41, 61}, {40, -1}, {40, math.MinInt64}, {70, 0}, {70, 10}, {1, 10}, {31, 10}, {50, 10}, {50, 101}, {0, 0}, {0, 10}, {-1, 10}, {math.MaxInt64, 10},
	} {
		r, ok := impl.JoinRoom(houseOf(), c[0], c[1])
		isNoRoom(t, fmt.Sprint(c, " in a closed room"), r, ok)
	}
	last := with(houseOf(), func(r *impl.Room) { r.Invites[0].Until = impl.MaxTick })
	r, ok = impl.JoinRoom(last, 40, impl.MaxTick)
	isRoom(t, "at the last tick", r, ok, joined(0, 40, impl.MaxTick))
	r, ok = impl.JoinRoom(last, 40, impl.MaxTick+1)
	isNoRoom(t, "behind the last tick", r, ok)
	r, ok = impl.JoinRoom(with(houseOf(), func(r *impl.Room) { r.Members = r.Members[2:] }), 40, 10)
	isNoRoom(t, "a room without owners", r, ok)
}

func TestJoinAnOpenRoom(t *testing.T) {
	open := with(houseOf(), func(r *impl.Room) { r.Open = true })
	for _, at := range []int64{0, 10, impl.MaxTick} {
		r, ok := impl.JoinRoom(open, 25, at)
		isRoom(t, "nobody has invited 25", r, ok, with(open, func(r *impl.Room) { r.Members = slices.Insert(r.Members, 6, member(25, impl.RoleMember, at, 0)) }))
		r, ok = impl.JoinRoom(open, 40, at)
		isRoom(t, "an invite is removed", r, ok, with(open, func(r *impl.Room) {
			r.Members, r.Invites = append(r.Members, member(40, impl.RoleMember, at, 0)), r.Invites[1:]
		}))
	}
	for _, c := range [][2]int64{{1, 10}, {32, 10}, {50, 10}, {50, 100}, {50, 101}, {51, impl.MaxTick}, {0, 10}, {-1, 10}, {impl.MaxMember + 1, 10}, {70, -1}, {70, impl.MaxTick + 1}} {
		r, ok := impl.JoinRoom(open, c[0], c[1])
		isNoRoom(t, fmt.Sprint(c, " in an open room"), r, ok)
	}
	full := fullRoom()
	r, ok := impl.JoinRoom(full, 90, 10)
	isNoRoom(t, "33 members", r, ok)
	r, ok = impl.JoinRoom(full, 33, 10)
	isNoRoom(t, "33 members, one invited", r, ok)
	r, ok = impl.JoinRoom(without(full, 32), 32, 10)
	isRoom(t, "the member 32", r, ok, with(full, func(r *impl.Room) { r.Members[31] = member(32, impl.RoleMember, 10, 0) }))
}

func TestLeaveRoom(t *testing.T) {
	for _, m := range houseOf().Members {
		r, ok := impl.LeaveRoom(houseOf(), m.Id)
		isRoom(t, fmt.Sprint(m.Id, " leaves"), r, ok, without(houseOf(), m.Id))
	}
	for _, id := range []int64{0, 3, 40, 50, -1, impl.MaxMember + 1} {
		r, ok := impl.LeaveRoom(houseOf(), id)
		isNoRoom(t, fmt.Sprint(id, " leaves"), r, ok)
	}
	alone, _ := impl.NewRoom(5, 0, true)
	r, ok := impl.LeaveRoom(alone, 5)
	isNoRoom(t, "the only one leaves", r, ok)
	r, ok = impl.LeaveRoom(with(alone, func(r *impl.Room) { r.Invites, r.Bans = []impl.Invite{invite(7, 5, 9)}, []impl.Ban{ban(8, 9)} }), 5)
	isNoRoom(t, "the only one leaves those who are invited", r, ok)
	r, ok = impl.LeaveRoom(alone, 6)
	isNoRoom(t, "nobody leaves", r, ok)
	r, ok = impl.LeaveRoom(with(houseOf(), func(r *impl.Room) { r.Invites[0].Id = 1 }), 31)
	isNoRoom(t, "a room that is not valid", r, ok)
}

// Promise 3: an owner is always left; who comes next is the first one by role, then Since, then Id.
func TestTheOnlyOwnerLeaves(t *testing.T) {
	for _, c := range []struct {
		rest []impl.Member
		next int
	}{
		{[]impl.Member{member(7, 1, 9, 0)}, 0}, {[]impl.Member{member(7, 0, 9, 50)}, 0},
		{[]impl.Member{member(6, 0, 0, 0), member(7, 1, 1, 0), member(8, 2, 9, 60)}, 2},
		{[]impl.Member{member(6, 1, 8, 0), member(7, 1, 7, 0), member(8, 0, 1, 0), member(9, 1, 7, 0)}, 1},
		{[]impl.Member{member(6, 2, 8, 0), member(7, 2, 8, 0), member(8, 1, 1, 0)}, 0},
		{[]impl.Member{member(6, 0, 3, 0), member(7, 0, 2, 0), member(8, 0, 2, 0)}, 1},
	} {
		before := impl.Room{Members: append([]impl.Member{member(5, 3, 0, 0)}, c.rest...), Invites: []impl.Invite{invite(2, 5, 9)}}
		after := impl.Room{Members: slices.Clone(c.rest), Invites: before.Invites}
		after.Members[c.next].Role = impl.RoleOwner
		r, ok := impl.LeaveRoom(before, 5)
		isRoom(t, fmt.Sprint("from ", before.Members), r, ok, after)
	}
	r, ok := impl.LeaveRoom(fullRoom(), 1)
	isRoom(t, "a full room", r, ok, with(fullRoom(), func(r *impl.Room) { r.Members = r.Members[1:]; r.Members[0].Role = impl.RoleOwner }))
}

func TestGiveRole(t *testing.T) {
	for _, id := range []int64{11, 12, 21, 22, 31, 32} {
		for role := int64(0); role < 4; role++ {
			r, ok := impl.GiveRole(houseOf(), 2, id, role, 7)
			isRoom(t, fmt.Sprint(id, " gets ", role), r, ok, with(houseOf(), func(r *impl.Room) { r.Members[indexOf(*r, id)].Role = role }))
		}
		for _, role := range []int64{-1, 4, math.MinInt64, math.MaxInt64} {
			r, ok := impl.GiveRole(houseOf(), 2, id, role, 7)
			isNoRoom(t, fmt.Sprint(id, " gets ", role), r, ok)
		}
	}
	for _, c := range [][2]int64{{1, 1}, {1, 2}, {2, 1}, {11, 31}, {21, 31}, {1, 3}, {1, 40}, {1, 50}, {1, 0}, {1, impl.MaxMember + 1}, {0, 31}} {
		for role := int64(0); role < 4; role++ {
			r, ok := impl.GiveRole(houseOf(), c[0], c[1], role, 7)
			isNoRoom(t, fmt.Sprint(c, role), r, ok)
		}
	}
	kept := with(houseOf(), func(r *impl.Room) { r.Members[6].Quiet = 90 })
	r, ok := impl.GiveRole(kept, 1, 31, impl.RoleOwner, 7)
	isRoom(t, "Since and Quiet stay", r, ok, with(kept, func(r *impl.Room) { r.Members[6].Role = impl.RoleOwner }))
}

func TestMuteMember(t *testing.T) {
	quiet := func(id, until int64) impl.Room {
		return with(houseOf(), func(r *impl.Room) { r.Members[indexOf(*r, id)].Quiet = until })
	}
	for _, until := range []int64{0, 1, 6, 7, 8, impl.MaxTick} {
		r, ok := impl.MuteMember(houseOf(), 12, 22, until, 7)
		isRoom(t, fmt.Sprint("quiet until ", until), r, ok, quiet(22, until))
	}
	r, ok := impl.MuteMember(quiet(11, 90), 1, 11, 0, 7)
	isRoom(t, "no more quiet", r, ok, houseOf())
	r, ok = impl.MuteMember(houseOf(), 2, 11, 9, impl.MaxTick)
	isRoom(t, "at the last tick", r, ok, quiet(11, 9))
	for _, c := range []struct{ by, id, until int64 }{
		{11, 22, -1}, {11, 22, impl.MaxTick + 1}, {11, 22, math.MinInt64}, {11, 22, math.MaxInt64},
		{11, 11, 9}, {11, 12, 9}, {11, 1, 9}, {1, 1, 9}, {1, 2, 9}, {21, 31, 9}, {31, 21, 9}, {11, 3, 9}, {11, 40, 9}, {11, 50, 9}, {11, 0, 9}, {11, impl.MaxMember + 1, 9},
	} {
		r, ok := impl.MuteMember(houseOf(), c.by, c.id, c.until, 7)
		isNoRoom(t, fmt.Sprint(c), r, ok)
	}
}

func TestBanMember(t *testing.T) {
	r, ok := impl.BanMember(houseOf(), 11, 22, 7, 7)
	isRoom(t, "a member, until the tick itself", r, ok, with(without(houseOf(), 22), func(r *impl.Room) { r.Bans = slices.Insert(r.Bans, 0, ban(22, 7)) }))
	r, ok = impl.BanMember(houseOf(), 1, 12, impl.MaxTick, impl.MaxTick)
	isRoom(t, "a helper, at the last tick", r, ok, with(without(houseOf(), 12), func(r *impl.Room) { r.Bans = slices.Insert(r.Bans, 0, ban(12, impl.MaxTick)) }))
	r, ok = impl.BanMember(houseOf(), 11, 41, 9, 7)
	isRoom(t, "one who is invited", r, ok, with(houseOf(), func(r *impl.Room) { r.Invites, r.Bans = r.Invites[:1], slices.Insert(r.Bans, 0, ban(41, 9)) }))
	r, ok = impl.BanMember(houseOf(), 11, 70, 9, 7)
	isRoom(t, "somebody else", r, ok, with(houseOf(), func(r *impl.Room) { r.Bans = append(r.Bans, ban(70, 9)) }))
	r, ok = impl.BanMember(houseOf(), 11, 51, 9, 7)
	isRoom(t, "in place of a later ban", r, ok, with(houseOf(), func(r *impl.Room) { r.Bans[1].Until = 9 }))
	for _, c := range []struct{ by, id, until, at int64 }{
		{11, 22, 6, 7}, {11, 22, -1, 0}, {11, 22, impl.MaxTick + 1, 7}, {11, 22, math.MaxInt64, 7}, {11, 70, 6, 7},
		{11, 11, 9, 7}, {11, 12, 9, 7}, {11, 1, 9, 7}, {1, 1, 9, 7}, {1, 2, 9, 7}, {21, 31, 9, 7}, {21, 70, 9, 7}, {31, 70, 9, 7},
		{11, 0, 9, 7}, {11, -1, 9, 7}, {11, impl.MaxMember + 1, 9, 7}, {40, 31, 9, 7}, {50, 31, 9, 7},
	} {
		r, ok := impl.BanMember(houseOf(), c.by, c.id, c.until, c.at)
		isNoRoom(t, fmt.Sprint(c), r, ok)
	}
}

func TestBansUpToTheLimit(t *testing.T) {
	full := fullRoom()
	for _, id := range []int64{2, 33, 90} {
		r, ok := impl.BanMember(full, 1, id, 9, 0)
		isNoRoom(t, fmt.Sprint("17 bans, with ", id), r, ok)
	}
	r, ok := impl.BanMember(full, 1, 49, 9, 0)
	isRoom(t, "in place of one of 16", r, ok, with(full, func(r *impl.Room) { r.Bans[0].Until = 9 }))
	r, ok = impl.BanMember(with(full, func(r *impl.Room) { r.Bans = r.Bans[:15] }), 1, 64, 100, 0)
	isRoom(t, "the ban 16", r, ok, full)
}

func TestLiftBan(t *testing.T) {
	for _, at := range []int64{0, 100, 101, impl.MaxTick} {
		r, ok := impl.LiftBan(houseOf(), 12, 50, at)
		isRoom(t, fmt.Sprint("of 50, until 100, at ", at), r, ok, with(houseOf(), func(r *impl.Room) { r.Bans = r.Bans[1:] }))
	}
	r, ok := impl.LiftBan(houseOf(), 1, 51, 7)
	isRoom(t, "of 51", r, ok, with(houseOf(), func(r *impl.Room) { r.Bans = r.Bans[:1] }))
	for _, c := range [][2]int64{{21, 50}, {31, 50}, {50, 50}, {51, 50}, {11, 70}, {11, 40}, {11, 31}, {11, 11}, {11, 1}, {11, 0}, {11, impl.MaxMember + 1}, {40, 50}} {
		r, ok := impl.LiftBan(houseOf(), c[0], c[1], 7)
		isNoRoom(t, fmt.Sprint(c), r, ok)
	}
}

func TestOpenRoom(t *testing.T) {
	for _, before := range []bool{true, false} {
		for _, after := range []bool{true, false} {
			for _, by := range []int64{1, 2} {
				r, ok := impl.OpenRoom(with(houseOf(), func(r *impl.Room) { r.Open = before }), by, after, 7)
				isRoom(t, fmt.Sprint(before, after), r, ok, with(houseOf(), func(r *impl.Room) { r.Open = after }))
			}
			for _, by := range []int64{11, 21, 31, 40, 50, 0, 70} {
				r, ok := impl.OpenRoom(with(houseOf(), func(r *impl.Room) { r.Open = before }), by, after, 7)
				isNoRoom(t, fmt.Sprint(by, " opens or closes"), r, ok)
			}
		}
	}
}

// What is over at the tick itself stays for one tick more, but who is quiet up to it is no more so.
func TestSweepRoom(t *testing.T) {
	r := with(houseOf(), func(r *impl.Room) {
		r.Invites = []impl.Invite{invite(40, 1, 19), invite(41, 1, 20), invite(42, 1, 21), invite(43, 1, 20)}
		r.Bans = []impl.Ban{ban(50, 20), ban(51, 21), ban(52, 19), ban(53, 0)}
		r.Members[1].Quiet, r.Members[2].Quiet, r.Members[3].Quiet, r.Members[4].Quiet = 19, 20, 21, impl.MaxTick
	})
	got, ok := impl.SweepRoom(r, 20)
	isRoom(t, "at 20", got, ok, with(r, func(r *impl.Room) {
		r.Invites, r.Bans = r.Invites[1:], r.Bans[:2]
		r.Members[1].Quiet, r.Members[2].Quiet = 0, 0
	}))
	got, ok = impl.SweepRoom(r, 0)
	isRoom(t, "at 0", got, ok, r)
	got, ok = impl.SweepRoom(r, impl.MaxTick)
	isRoom(t, "at the last tick", got, ok, impl.Room{Members: houseOf().Members})
	last := with(r, func(r *impl.Room) { r.Invites[0].Until, r.Bans[0].Until = impl.MaxTick, impl.MaxTick })
	got, ok = impl.SweepRoom(last, impl.MaxTick)
	isRoom(t, "over at the last tick", got, ok, impl.Room{Members: houseOf().Members, Invites: last.Invites[:1], Bans: last.Bans[:1]})
	for _, at := range []int64{-1, impl.MaxTick + 1, math.MinInt64, math.MaxInt64} {
		got, ok = impl.SweepRoom(r, at)
		isNoRoom(t, fmt.Sprint("at ", at), got, ok)
	}
	got, ok = impl.SweepRoom(with(r, func(r *impl.Room) { r.Invites[0].Id = 1 }), 20)
	isNoRoom(t, "what is over is not valid", got, ok)
}

// A ban counts as long as it is there, also when it is over; only a sweep or LiftBan ends it.
func TestBansThatAreOver(t *testing.T) {
	r := with(houseOf(), func(r *impl.Room) { r.Open = true })
	for _, at := range []int64{99, 100, 101, impl.MaxTick} {
		_, joins := impl.JoinRoom(r, 50, at)
		isBool(t, fmt.Sprint("joins at ", at), joins, false)
		_, invited := impl.InviteTo(r, 1, 50, impl.MaxTick, at)
		isBool(t, fmt.Sprint("is invited at ", at), invited, false)
		swept, _ := impl.SweepRoom(r, at)
		_, joins = impl.JoinRoom(swept, 50, at)
		isBool(t, fmt.Sprint("joins behind a sweep at ", at), joins, at > 100)
		lifted, _ := impl.LiftBan(r, 11, 50, at)
		_, joins = impl.JoinRoom(lifted, 50, at)
		isBool(t, fmt.Sprint("joins behind LiftBan at ", at), joins, true)
	}
}

func TestRanksOf(t *testing.T) {
	ranks, ok := impl.RanksOf(houseOf())
	isList(t, "a house", ranks, ok, 2, 1, 11, 12, 21, 22, 31, 32)
	ranks, ok = impl.RanksOf(impl.Room{Members: []impl.Member{
		member(1, 0, 0, 0), member(2, 1, 9, 0), member(3, 1, 8, 99), member(4, 3, 8, 0), member(5, 2, 7, 0), member(6, 3, 8, 0), member(7, 3, 0, 0), member(8, 0, 0, 0), member(9, 1, 8, 0),
	}})
	isList(t, "nine members", ranks, ok, 7, 4, 6, 5, 3, 9, 2, 1, 8)
	alone, _ := impl.NewRoom(5, 0, true)
	ranks, ok = impl.RanksOf(alone)
	isList(t, "one member", ranks, ok, 5)
	ranks, ok = impl.RanksOf(fullRoom())
	isList(t, "a full room", ranks, ok, upTo(impl.MaxMembers)...)
	equals, want := impl.Room{}, [][]int64{nil, nil, nil, nil}
	for id := int64(1); id <= impl.MaxMembers; id++ {
		role := id * 7 % 4
		equals.Members = append(equals.Members, member(id, role, 5, 0))
		want[3-role] = append(want[3-role], id)
	}
	ranks, ok = impl.RanksOf(equals)
	isList(t, "all since the same tick", ranks, ok, slices.Concat(want...)...)
	ranks, ok = impl.RanksOf(impl.Room{})
	isNoList(t, "the empty room", ranks, ok)
	ranks, ok = impl.RanksOf(without(without(houseOf(), 1), 2))
	isNoList(t, "a room without owners", ranks, ok)
}

func TestCountRoles(t *testing.T) {
	counts, ok := impl.CountRoles(houseOf())
	isList(t, "a house", counts, ok, 2, 2, 2, 2)
	counts, ok = impl.CountRoles(without(without(without(houseOf(), 1), 11), 12))
	isList(t, "no helpers", counts, ok, 2, 2, 0, 1)
	counts, ok = impl.CountRoles(fullRoom())
	isList(t, "a full room", counts, ok, 0, 31, 0, 1)
	counts, ok = impl.CountRoles(impl.Room{})
	isNoList(t, "the empty room", counts, ok)
	counts, ok = impl.CountRoles(with(houseOf(), func(r *impl.Room) { r.Members[3].Role = 4 }))
	isNoList(t, "a room with another role", counts, ok)
}

// isSound reports what chapter 2 requires of a room, without the program.
func isSound(r impl.Room) bool {
	owned, seen := false, map[int64]bool{}
	take := func(i int, id, before int64, ticks ...int64) bool {
		again := seen[id]
		seen[id] = true
		outside := func(n int64) bool { return n < 0 || n > impl.MaxTick }
		return !again && id >= 1 && id <= impl.MaxMember && (i == 0 || before < id) && !slices.ContainsFunc(ticks, outside)
	}
	for i, m := range r.Members {
		owned = owned || m.Role == impl.RoleOwner
		if !take(i, m.Id, r.Members[max(i-1, 0)].Id, m.Since, m.Quiet) || m.Role < 0 || m.Role > 3 {
			return false
		}
	}
	for i, v := range r.Invites {
		if !take(i, v.Id, r.Invites[max(i-1, 0)].Id, v.Until) || v.By < 1 || v.By > impl.MaxMember {
			return false
		}
	}
	for i, b := range r.Bans {
		if !take(i, b.Id, r.Bans[max(i-1, 0)].Id, b.Until) {
			return false
		}
	}
	return owned && len(r.Members) <= impl.MaxMembers && len(r.Invites) <= impl.MaxInvites && len(r.Bans) <= impl.MaxBans
}

// A step is a function of a room with numbers for all that it needs.
type step struct {
	name string
	act  int64 // -1 if it needs nobody who is allowed
	run  func(r impl.Room, by, id, n, at int64) (impl.Room, bool)
}

func steps() []step {
	return []step{
		{"InviteTo", impl.ActInvite, impl.InviteTo},
		{"GiveRole", impl.ActRole, impl.GiveRole},
		{"MuteMember", impl.ActMute, impl.MuteMember},
		{"BanMember", impl.ActBan, impl.BanMember},
		{"LiftBan", impl.ActBan, func(r impl.Room, by, id, n, at int64) (impl.Room, bool) { return impl.LiftBan(r, by, id, at) }},
		{"OpenRoom", impl.ActClose, func(r impl.Room, by, id, n, at int64) (impl.Room, bool) { return impl.OpenRoom(r, by, n%2 == 0, at) }},
		{"JoinRoom", -1, func(r impl.Room, by, id, n, at int64) (impl.Room, bool) { return impl.JoinRoom(r, id, at) }},
		{"LeaveRoom", -1, func(r impl.Room, by, id, n, at int64) (impl.Room, bool) { return impl.LeaveRoom(r, id) }},
		{"SweepRoom", -1, func(r impl.Room, by, id, n, at int64) (impl.Room, bool) { return impl.SweepRoom(r, at) }},
	}
}

// Promise 3, on long walks: a room stays valid with an owner, who is banned does not come in,
// and nothing is done by one who is not allowed to do it.
func TestRoomsOnWalks(t *testing.T) {
	rounds := rand.New(rand.NewSource(4))
	all, done := steps(), map[string]int{}
	for walk := range 100 {
		r, _ := impl.NewRoom(rounds.Int63n(15)+1, 0, walk%2 == 0)
		for at := int64(0); at < 300; at++ {
			s := all[rounds.Intn(len(all))]
			by, id, n := r.Members[rounds.Intn(len(r.Members))].Id, rounds.Int63n(17), rounds.Int63n(5)
			if s.name != "GiveRole" {
				n = at + rounds.Int63n(30) - 2
			}
			if rounds.Intn(5) == 0 {
				by = rounds.Int63n(17)
			}
			after, ok := s.run(r, by, id, n, at)
			if !ok {
				isNoRoom(t, s.name, after, ok)
				continue
			}
			done[s.name]++
			isBool(t, s.name+" leaves a sound room", isSound(after) && impl.ValidRoom(after), true)
			if s.act >= 0 {
				isBool(t, s.name+" is allowed", impl.IsAllowed(r, by, s.act, at), true)
			}
			for _, b := range r.Bans {
				isBool(t, s.name+" lets a banned one in", indexOf(after, b.Id) >= 0, false)
			}
			if s.act >= 0 && indexOf(r, id) >= 0 && s.name != "OpenRoom" {
				isBool(t, s.name+" is done to a lesser role", roleIn(r, by) > roleIn(r, id), true)
			}
			r = after
		}
	}
	for _, s := range all {
		isBool(t, s.name+" has been done", done[s.name] > 20, true)
	}
}
