package roster_test

import (
	"testing"

	"covey/api"
	"covey/roster"
)

// P7.1: what may be known: nothing, each limit, each status with its numbers, and an ID that is just above its floor.
func TestMay(t *testing.T) {
	for _, k := range []known{
		{},
		{[]api.Member{}, []api.ID{}},
		{nil, ids(id(1, 1))},
		{nil, ids(id(1, 1048576), id(2, 5), id(11, 1), id(12, 1048576))},
		{members(member(1, 1, api.Joining, 0)), nil},
		{members(member(1, 1, api.Weak, 0)), nil},
		{members(member(1, 1, api.Up, 1)), nil},
		{members(member(1, 1, api.Up, 1099511627776)), nil},
		{members(member(1, 1, api.Leaving, 1)), nil},
		{members(member(1, 1, api.Leaving, 1099511627776)), nil},
		{members(member(1, 1, api.Exiting, 0)), nil},
		{members(member(1, 1, api.Exiting, 1)), nil},
		{members(member(1, 1, api.Exiting, 1099511627776)), nil},
		{members(member(1, 1, api.Down, 0)), nil},
		{members(member(1, 1, api.Down, 1)), nil},
		{members(member(1, 1, api.Down, 1099511627776)), nil},
		{members(member(12, 1048576, api.Up, 2)), ids(id(12, 1048575))},
		{members(member(2, 7, api.Up, 2)), ids(id(2, 6))},
		{members(member(2, 7, api.Up, 2)), ids(id(1, 7), id(3, 9))},
		{members(member(1, 9, api.Up, 2), member(2, 1, api.Up, 2), member(12, 3, api.Joining, 0)), ids(id(1, 8), id(5, 1), id(12, 2))},
	} {
		if !roster.May(k.m, k.f) {
			t.Errorf("May(%v): false", k)
		}
	}
	for n := range 13 {
		if k := rise(n); !roster.May(k.m, k.f) || !roster.May(k.m, nil) || !roster.May(nil, k.f) {
			t.Errorf("May of %d addresses: false", n)
		}
	}
}

// P7.1: what may not be known, for one reason each.
func TestMayNot(t *testing.T) {
	up := member(2, 2, api.Up, 1)
	for _, k := range []known{
		{members(api.Member{}), nil},
		{members(member(0, 1, api.Up, 1)), nil},
		{members(member(-1, 1, api.Up, 1)), nil},
		{members(member(13, 1, api.Up, 1)), nil},
		{members(member(1, 0, api.Up, 1)), nil},
		{members(member(1, -1, api.Up, 1)), nil},
		{members(member(1, 1048577, api.Up, 1)), nil},
		{members(member(1, 1, 0, 0)), nil},
		{members(member(1, 1, 0, 1)), nil},
		{members(member(1, 1, api.Removed, 0)), nil},
		{members(member(1, 1, api.Removed, 1)), nil},
		{members(member(1, 1, 8, 1)), nil},
		{members(member(1, 1, 255, 0)), nil},
		{members(member(1, 1, api.Joining, 1)), nil},
		{members(member(1, 1, api.Joining, -1)), nil},
		{members(member(1, 1, api.Weak, 1)), nil},
		{members(member(1, 1, api.Weak, -1)), nil},
		{members(member(1, 1, api.Up, 0)), nil},
		{members(member(1, 1, api.Up, -1)), nil},
		{members(member(1, 1, api.Up, 1099511627777)), nil},
		{members(member(1, 1, api.Leaving, 0)), nil},
		{members(member(1, 1, api.Leaving, -1)), nil},
		{members(member(1, 1, api.Leaving, 1099511627777)), nil},
		{members(member(1, 1, api.Exiting, -1)), nil},
		{members(member(1, 1, api.Exiting, 1099511627777)), nil},
		{members(member(1, 1, api.Down, -1)), nil},
		{members(member(1, 1, api.Down, 1099511627777)), nil},
		{members(up, up), nil},
		{members(up, member(2, 3, api.Up, 1)), nil},
		{members(up, member(2, 1, api.Up, 1)), nil},
		{members(up, member(1, 2, api.Up, 1)), nil},
		{members(up, member(1, 3, api.Up, 1)), nil},
		{members(up, member(3, 1, api.Up, 2), up), nil},
		{members(up), ids(id(2, 2))},
		{members(up), ids(id(2, 3))},
		{members(up), ids(id(1, 1), id(2, 2), id(3, 1))},
		{members(up, member(3, 1, api.Up, 1)), ids(id(3, 1))},
		{nil, ids(api.ID{})},
		{nil, ids(id(0, 1))},
		{nil, ids(id(13, 1))},
		{nil, ids(id(1, 0))},
		{nil, ids(id(1, -1))},
		{nil, ids(id(1, 1048577))},
		{nil, ids(id(1, 1), id(1, 1))},
		{nil, ids(id(1, 1), id(1, 2))},
		{nil, ids(id(2, 1), id(1, 2))},
		{nil, ids(id(1, 1), id(3, 1), id(2, 1))},
		{nil, ids(id(1, 1), id(2, 0))},
	} {
		if roster.May(k.m, k.f) {
			t.Errorf("May(%v): true", k)
		}
	}
}

// P7.1: every number of addresses, where one entry is wrong, wherever it stands. (The first one has none before it, so that not all ways make it wrong.)
func TestMayOfOneWrongEntry(t *testing.T) {
	wrong := []func(k known, i, before int){
		func(k known, i, _ int) { k.m[i].ID.Addr = 13 },
		func(k known, i, _ int) { k.m[i].ID.Addr = 0 },
		func(k known, i, _ int) { k.m[i].ID.Inc = 1<<20 + 1 },
		func(k known, i, _ int) { k.m[i].ID.Inc = k.f[i].Inc },
		func(k known, i, _ int) { k.m[i].Status = 0 },
		func(k known, i, _ int) { k.m[i].Status = 7 },
		func(k known, i, _ int) { k.m[i].No = -1 },
		func(k known, i, _ int) { k.m[i].No = 1<<40 + 1 },
		func(k known, i, _ int) { k.f[i].Inc = 0 },
		func(k known, i, _ int) { k.f[i].Inc = 1<<20 + 1 },
		func(k known, i, _ int) { k.f[i].Addr = 13 },
		func(k known, i, _ int) { k.f[i].Addr = 0 },
		func(k known, i, _ int) { k.f[i].Inc++ },
		func(k known, i, before int) { k.f[i].Addr = k.f[before].Addr },
		func(k known, i, before int) { k.m[i].ID.Addr = k.m[before].ID.Addr },
		func(k known, i, before int) { k.m[i], k.m[before] = k.m[before], k.m[i] },
		func(k known, i, before int) { k.f[i], k.f[before] = k.f[before], k.f[i] },
	}
	for n := 1; n <= 12; n++ {
		for i := range n {
			for way, bend := range wrong {
				k := rise(n)
				bend(k, i, max(i-1, 0))
				if got := roster.May(k.m, k.f); got != mayOf(k) || i > 0 && got {
					t.Fatalf("May of %d addresses, wrong at %d in way %d: %t", n, i, way, got)
				}
			}
		}
	}
}

// P7.1: each status, and the values beside them, with each number, of each ID, above, at and below its floor.
func TestAnyMember(t *testing.T) {
	for _, of := range anyIDs() {
		for _, x := range membersOf(ids(of), anyStatuses(), []int{-1, 0, 1, 1 << 40, 1<<40 + 1}) {
			for _, f := range [][]api.ID{nil, ids(id(of.Addr, of.Inc-1)), ids(of), ids(id(of.Addr, of.Inc+1))} {
				checkOne(t, known{members(x), f}, of, member(of.Addr, 1, api.Up, 5))
			}
		}
	}
	for _, no := range anyNumbers() {
		for status := range 256 {
			x := member(3, 5, uint8(status), no)
			checkOne(t, known{m: members(x)}, x.ID, x)
			checkOne(t, known{m: members(member(3, 5, api.Weak, 4))}, x.ID, x)
		}
	}
}

// P7.1: Floor: the greatest incarnation of an address, wherever it stands, of any floors; 0 of others, and if none is above 0.
func TestFloor(t *testing.T) {
	f := ids(id(2, 3), id(1, 4), id(2, 9), id(2, 5), id(4, 0), id(5, -7), id(13, 8), id(-1, 6), id(6, 1<<62), id(7, 1048577))
	for addr, want := range map[int]int{1: 4, 2: 9, 3: 0, 4: 0, 5: 0, 6: 1 << 62, 7: 1048577, 13: 8, -1: 6, 0: 0, 14: 0} {
		if got := roster.Floor(f, addr); got != want {
			t.Errorf("Floor(%v, %d): %d, not %d", f, addr, got, want)
		}
		if got := roster.Floor(nil, addr); got != 0 {
			t.Errorf("Floor of none: %d", got)
		}
	}
}

// P7.1: Gone: an ID that is below its floor, or just that, and not one that is above it; without a floor above 0, one whose incarnation is 0 or less.
func TestGone(t *testing.T) {
	f := ids(id(1, 4), id(2, 9), id(2, 5), id(5, -7), id(13, 8))
	for _, c := range []struct {
		id   api.ID
		gone bool
	}{
		{id(1, -1), true},
		{id(1, 0), true},
		{id(1, 1), true},
		{id(1, 3), true},
		{id(1, 4), true},
		{id(1, 5), false},
		{id(1, 1<<62), false},
		{id(2, 5), true},
		{id(2, 9), true},
		{id(2, 10), false},
		{id(3, 1), false},
		{id(3, 0), true},
		{id(3, -1), true},
		{id(5, -8), true},
		{id(5, 0), true},
		{id(5, 1), false},
		{id(13, 8), true},
		{id(13, 9), false},
		{id(0, 1), false},
		{id(0, 0), true},
	} {
		if got := roster.Gone(f, c.id); got != c.gone {
			t.Errorf("Gone(%v, %v): %t", f, c.id, got)
		}
		if got := roster.Gone(nil, c.id); got != (c.id.Inc <= 0) {
			t.Errorf("Gone(none, %v): %t", c.id, got)
		}
	}
	for _, of := range anyIDs() {
		for _, inc := range anyNumbers() {
			checkOne(t, known{f: ids(id(of.Addr, inc), id(5, 3))}, of, api.Member{})
			checkOne(t, known{f: ids(id(4, 3), id(of.Addr, 2), id(of.Addr, inc))}, of, api.Member{})
		}
	}
}

// several are members of few IDs, not valid together: several of one ID, and of one address, some with one number.
func several() []api.Member {
	return members(
		member(2, 3, api.Up, 6),
		member(1, 1, api.Up, 5),
		member(2, 3, api.Down, 4),
		member(2, 1, api.Joining, 9),
		member(3, 4, api.Up, 4),
		member(3, 4, api.Weak, 4),
		member(3, 2, api.Removed, 4),
		member(4, -2, 9, -1),
		member(4, -3, 0, 0),
		member(13, 0, api.Up, -5),
		member(3, 2, api.Up, 4),
	)
}

// P7.1: Get: the first member with an ID, wherever it stands; none with an ID that has only one number of it.
func TestGet(t *testing.T) {
	m := several()
	for _, c := range []struct {
		m    []api.Member
		of   api.ID
		want api.Member
		is   bool
	}{
		{nil, id(1, 1), api.Member{}, false},
		{nil, api.ID{}, api.Member{}, false},
		{members(api.Member{}), api.ID{}, api.Member{}, true},
		{m, id(1, 1), m[1], true},
		{m, id(2, 3), m[0], true},
		{m, id(2, 1), m[3], true},
		{m, id(3, 4), m[4], true},
		{m, id(3, 2), m[6], true},
		{m, id(4, -2), m[7], true},
		{m, id(13, 0), m[9], true},
		{m, id(1, 3), api.Member{}, false},
		{m, id(2, 2), api.Member{}, false},
		{m, id(3, 1), api.Member{}, false},
		{m, api.ID{}, api.Member{}, false},
	} {
		if got, is := roster.Get(c.m, c.of); is != c.is || got != c.want {
			t.Errorf("Get(%v, %v): %v, %t, not %v, %t", c.m, c.of, got, is, c.want, c.is)
		}
	}
}

// P7.1: At: the member of an address with the greatest incarnation, of several the first one, wherever it stands.
func TestAt(t *testing.T) {
	m := several()
	for _, c := range []struct {
		m    []api.Member
		addr int
		want api.Member
		is   bool
	}{
		{nil, 1, api.Member{}, false},
		{nil, 0, api.Member{}, false},
		{members(api.Member{}), 0, api.Member{}, true},
		{m, 1, m[1], true},
		{m, 2, m[0], true},
		{m[2:], 2, m[2], true},
		{m[3:], 2, m[3], true},
		{m, 3, m[4], true},
		{m[6:], 3, m[6], true},
		{m, 4, m[7], true},
		{m[8:], 4, m[8], true},
		{m, 13, m[9], true},
		{m, 5, api.Member{}, false},
		{m, 0, api.Member{}, false},
	} {
		if got, is := roster.At(c.m, c.addr); is != c.is || got != c.want {
			t.Errorf("At(%v, %d): %v, %t, not %v, %t", c.m, c.addr, got, is, c.want, c.is)
		}
	}
}
