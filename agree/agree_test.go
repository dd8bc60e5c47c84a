package agree_test

import (
	"slices"
	"testing"

	"covey/agree"
	"covey/api"
)

// a to d are those of whom these tests speak; x to z are no members.
var (
	a, b, c, d = id(1, 1), id(2, 1), id(3, 1), id(4, 1)
	x, y, z    = id(1, 2), id(2, 2), id(9, 1)
)

// of returns a view of members at the addresses 1, 2 and so on, each with a status; 0: there is none.
func of(statuses ...uint8) api.View {
	var v api.View
	for i, status := range statuses {
		if status != 0 {
			v.Members = append(v.Members, member(i+1, status))
		}
	}
	return v
}

// seenBy returns a view that some have seen.
func seenBy(v api.View, l ...api.ID) api.View {
	v.Seen = l
	return v
}

// with returns a view with rows.
func with(v api.View, rows ...api.Row) api.View {
	v.Rows = rows
	return v
}

// told is what a test expects of a view.
type told struct {
	name          string
	v             api.View
	not           []api.ID
	all, reaching bool
	leader        api.ID // none, if it is not valid
}

// hold holds all calls about a view against what a test expects, and the model, too.
func hold(t *testing.T, w told) {
	t.Helper()
	if got := agree.NotReached(w.v); !slices.Equal(got, w.not) {
		t.Errorf("%s: NotReached: %v, not %v", w.name, got, w.not)
	}
	for _, x := range ids(a, b, c, d, x, y, z) {
		is := slices.ContainsFunc(w.v.Members, func(m api.Member) bool { return m.ID == x })
		if got := agree.Reached(w.v, x); got != (is && !slices.Contains(w.not, x)) {
			t.Errorf("%s: Reached of %v: %t", w.name, x, got)
		}
	}
	if got := agree.All(w.v); got != w.all {
		t.Errorf("%s: All: %t", w.name, got)
	}
	if got := agree.Reaching(w.v); got != w.reaching {
		t.Errorf("%s: Reaching: %t", w.name, got)
	}
	if got, is := agree.Leader(w.v); got != w.leader || is != (w.leader != api.ID{}) {
		t.Errorf("%s: Leader: %v, %t, not %v", w.name, got, is, w.leader)
	}
	check(t, w.v)
}

// The chapter's examples.
func TestExamples(t *testing.T) {
	v := seenBy(of(api.Up, api.Up), a, b)
	hold(t, told{"no rows", v, nil, true, true, a})
	v.Rows = []api.Row{row(b, a)}
	hold(t, told{"the row of 2.1 has 1.1", v, ids(a), false, true, b})
	v.Members[1].Status = api.Down
	hold(t, told{"2.1 Down in addition", v, nil, true, true, a})
}

// P9.1: who agrees: all, only those that are reached, and neither.
func TestWhoAgrees(t *testing.T) {
	up3 := of(api.Up, api.Up, api.Up)
	for _, w := range []told{
		{"one alone", seenBy(of(api.Up), a), nil, true, true, a},
		{"one alone that has not seen it", of(api.Up), nil, false, false, a},
		{"one alone, seen by another one", seenBy(of(api.Up), b), nil, false, false, a},
		{"one alone, seen by another life", seenBy(of(api.Up), x), nil, false, false, a},
		{"one Leaving alone", seenBy(of(api.Leaving), a), nil, true, true, a},
		{"one Leaving alone that has not seen it", of(api.Leaving), nil, false, false, a},
		{"three", seenBy(up3, a, b, c), nil, true, true, a},
		{"three, and others have seen it, too", seenBy(up3, a, x, b, c, z), nil, true, true, a},
		{"three, of whom one has not seen it", seenBy(up3, a, b), nil, false, false, a},
		{"three, of whom the first one has not seen it", seenBy(up3, b, c), nil, false, false, a},
		{"three, of whom one is not reached", with(seenBy(up3, a, b, c), row(a, b)), ids(b), false, true, a},
		{"three, of whom one is not reached, and has not seen it", with(seenBy(up3, b, c), row(c, a)), ids(a), false, true, b},
		{"three, of whom one is not reached, and another one has not seen it", with(seenBy(up3, a, b), row(b, a)), ids(a), false, false, b},
		{"three, of whom two are not reached", with(seenBy(up3, b), row(b, a, c)), ids(a, c), false, true, b},
		{"Up and Leaving", seenBy(of(api.Leaving, api.Up), a, b), nil, true, true, a},
		{"Leaving has not seen it", seenBy(of(api.Up, api.Leaving), a), nil, false, false, a},
		{"Leaving is not reached", with(seenBy(of(api.Up, api.Leaving), a, b), row(a, b)), ids(b), false, true, a},
		{"others need not have seen it", seenBy(of(api.Joining, api.Weak, api.Up, api.Exiting, api.Down), c), nil, true, true, c},
		{"Joining is not reached", with(seenBy(of(api.Up, api.Joining), a, b), row(a, b)), ids(b), false, true, a},
		{"Weak is not reached", with(seenBy(of(api.Up, api.Weak), a, b), row(a, b)), ids(b), false, true, a},
		{"Exiting is not reached", with(seenBy(of(api.Up, api.Exiting), a), row(a, b)), ids(b), true, true, a},
		{"Down is not reached", with(seenBy(of(api.Up, api.Down), a), row(a, b)), ids(b), true, true, a},
		{"Exiting and Up are not reached", with(seenBy(of(api.Up, api.Exiting, api.Up), a, c), row(a, b, c)), ids(b, c), false, true, a},
	} {
		hold(t, w)
	}
}

// P9.1: the edges: nothing, nobody who votes, and nobody who is reached.
func TestNobody(t *testing.T) {
	for _, w := range []told{
		{"nothing", api.View{}, nil, false, false, api.ID{}},
		{"lists of nothing", api.View{Members: []api.Member{}, Floors: []api.ID{}, Rows: []api.Row{}, Clock: []api.Tick{}, Seen: []api.ID{}}, nil, false, false, api.ID{}},
		{"no members", with(seenBy(of(), a, b), row(a, b), row(b, a)), nil, false, false, api.ID{}},
		{"floors alone", api.View{Floors: ids(a, b), Seen: ids(a, b)}, nil, false, false, api.ID{}},
		{"Joining alone", seenBy(of(api.Joining), a), nil, false, false, a},
		{"Weak alone", seenBy(of(api.Weak), a), nil, false, false, a},
		{"Exiting alone", seenBy(of(api.Exiting), a), nil, false, false, api.ID{}},
		{"Down alone", seenBy(of(api.Down), a), nil, false, false, api.ID{}},
		{"nobody Up or Leaving", seenBy(of(api.Joining, api.Weak, api.Exiting, api.Down), a, b, c, d), nil, false, false, b},
		{"nobody Up or Leaving, and Exiting is not reached", with(seenBy(of(api.Exiting, api.Exiting), a, b), row(b, a)), ids(a), false, false, api.ID{}},
		{"two do not reach each other", with(seenBy(of(api.Up, api.Up), a, b), row(a, b), row(b, a)), ids(a, b), false, false, api.ID{}},
		{"three, in a ring", with(seenBy(of(api.Up, api.Weak, api.Joining), a, b, c), row(a, b), row(b, c), row(c, a)), ids(a, b, c), false, false, api.ID{}},
		{"nobody Up is reached", with(seenBy(of(api.Up, api.Up, api.Weak), a, b, c), row(c, a, b)), ids(a, b), false, false, c},
		{"only Exiting is reached", with(seenBy(of(api.Up, api.Exiting), a, b), row(b, a)), ids(a), false, false, api.ID{}},
	} {
		hold(t, w)
	}
}

// P9.1, P9.6: whose rows count, and for whom.
func TestRows(t *testing.T) {
	up := seenBy(of(api.Up, api.Up, api.Up, api.Up), a, b, c, d)
	down := seenBy(of(api.Up, api.Down, api.Up), a, c)
	for _, w := range []told{
		{"a row of nobody", with(up, row(a)), nil, true, true, a},
		{"two about one", with(up, row(a, c), row(b, c)), ids(c), false, true, a},
		{"one about three", with(up, row(d, a, b, c)), ids(a, b, c), false, true, d},
		{"some about one another", with(up, row(a, b, d), row(b, c), row(d, a)), ids(a, b, c, d), false, false, api.ID{}},
		{"about others in no order", with(up, row(d, c, a, c), row(b, a)), ids(a, c), false, true, b},
		{"about those who are no members", with(up, row(a, x, y, z)), nil, true, true, a},
		{"about a member among others", with(up, row(b, x, c, y, z)), ids(c), false, true, a},
		{"of somebody who is no member", with(up, row(z, a, b)), nil, true, true, a},
		{"of another life of a member", with(up, row(x, b), row(y, a)), nil, true, true, a},
		{"of themselves", with(up, row(a, a), row(b, b)), nil, true, true, a},
		{"of themselves, and another one", with(up, row(a, a, c)), ids(c), false, true, a},
		{"of one that is not reached itself", with(up, row(a, b), row(b, c)), ids(b, c), false, true, a},
		{"of somebody Down", with(down, row(b, a, c)), nil, true, true, a},
		{"of somebody Down, and of another one about it", with(down, row(a, b), row(b, a, c)), ids(b), true, true, a},
		{"of somebody Down, and the same of another one", with(down, row(a, c), row(b, a, c)), ids(c), false, true, a},
		{"of one that is Exiting", with(seenBy(of(api.Up, api.Up, api.Exiting), a, b), row(c, a)), ids(a), false, true, b},
		{"of one that is Joining", with(seenBy(of(api.Up, api.Up, api.Joining), a, b), row(c, a)), ids(a), false, true, b},
		{"of one that is Weak", with(seenBy(of(api.Up, api.Up, api.Weak), a, b), row(c, b)), ids(b), false, true, a},
		{"of one that is Leaving", with(seenBy(of(api.Up, api.Up, api.Leaving), a, b, c), row(c, b)), ids(b), false, true, a},
		{"with any versions", with(up, api.Row{Of: a, Version: -5, Not: ids(b)}, api.Row{Of: b, Not: ids(c)}), ids(b, c), false, true, a},
	} {
		hold(t, w)
	}
}

// P9.1: who leads: of each rank, with and without somebody of a better one, and the next one where the least is not reached.
func TestLeader(t *testing.T) {
	for _, w := range []struct {
		v      api.View
		leader api.ID
	}{
		{of(api.Joining, api.Joining), a},
		{of(api.Weak, api.Weak), a},
		{of(api.Up, api.Up), a},
		{of(api.Leaving, api.Leaving), a},
		{of(api.Leaving, api.Up), a},
		{of(api.Up, api.Leaving), a},
		{of(api.Joining, api.Weak), b},
		{of(api.Joining, api.Up), b},
		{of(api.Joining, api.Leaving), b},
		{of(api.Weak, api.Joining), a},
		{of(api.Weak, api.Up), b},
		{of(api.Weak, api.Leaving), b},
		{of(api.Joining, api.Weak, api.Up), c},
		{of(api.Joining, api.Weak, api.Weak), b},
		{of(api.Joining, api.Weak, api.Leaving, api.Up), c},
		{of(api.Exiting, api.Down, api.Joining), c},
		{of(api.Exiting, api.Down, api.Joining, api.Weak), d},
		{of(api.Exiting, api.Down), api.ID{}},
		{with(of(api.Up, api.Leaving, api.Up), row(c, a)), b},
		{with(of(api.Up, api.Leaving, api.Up), row(c, a, b)), c},
		{with(of(api.Up, api.Weak, api.Weak), row(b, a)), b},
		{with(of(api.Up, api.Weak, api.Weak), row(c, a, b)), c},
		{with(of(api.Weak, api.Up, api.Joining), row(a, b)), a},
		{with(of(api.Weak, api.Up, api.Joining), row(c, a, b)), c},
		{with(of(api.Joining, api.Joining, api.Leaving), row(b, a, c)), b},
		{with(of(api.Joining, api.Weak, api.Up, api.Exiting), row(d, a, b, c)), api.ID{}},
		{with(of(api.Joining, api.Weak, api.Up, api.Down), row(d, a, b, c)), c},
	} {
		for _, seen := range [][]api.ID{nil, ids(a), ids(a, b, c, d)} {
			got, is := agree.Leader(seenBy(w.v, seen...))
			if got != w.leader || is != (w.leader != api.ID{}) {
				t.Errorf("Leader of %v: %v, %t, not %v", w.v, got, is, w.leader)
			}
		}
	}
}

// P9.1: the order of IDs counts, not that of the members, nor their numbers.
func TestLeastID(t *testing.T) {
	l := []api.Member{{ID: id(10, 1), Status: api.Up, No: 1}, {ID: id(9, 1048576), Status: api.Up, No: 2}, {ID: id(9, 2), Status: api.Leaving, No: 4}, {ID: id(9, 10), Status: api.Up, No: 3}}
	v := api.View{Members: l}
	for _, c := range []struct {
		not    []api.ID
		leader api.ID
	}{
		{nil, id(9, 2)},
		{ids(id(9, 2)), id(9, 10)},
		{ids(id(9, 10), id(9, 2)), id(9, 1048576)},
		{ids(id(9, 1048576), id(9, 10), id(9, 2)), id(10, 1)},
	} {
		v.Rows = []api.Row{row(id(10, 1), c.not...)}
		if got, is := agree.Leader(v); got != c.leader || !is {
			t.Errorf("Leader without %v: %v, %t, not %v", c.not, got, is, c.leader)
		}
		want := slices.Clone(c.not)
		slices.Reverse(want)
		if got := agree.NotReached(v); !slices.Equal(got, want) {
			t.Errorf("NotReached: %v, not %v", got, want)
		}
	}
}

// P9.1: each status, and the values beside them: of one who is there, of one who says something, and of one who is not reached.
func TestEachStatus(t *testing.T) {
	for n := range 256 {
		status := uint8(n)
		voter, below := n == 3 || n == 4, n < 6
		v := api.View{Members: []api.Member{{ID: a, Status: status}}, Seen: ids(a)}
		leader := api.ID{}
		if 1 <= n && n <= 4 {
			leader = a
		}
		hold(t, told{"alone", v, nil, voter, voter, leader})

		v = api.View{Members: []api.Member{{ID: a, Status: status}, {ID: b, Status: api.Up}, {ID: c, Status: api.Up}}, Seen: ids(a, b, c)}
		if leader = b; voter {
			leader = a
		}
		hold(t, told{"beside two Up", v, nil, true, true, leader})
		v.Seen = ids(b, c)
		hold(t, told{"beside two Up who have seen it", v, nil, !voter, !voter, leader})
		v.Rows = []api.Row{row(c, a)}
		hold(t, told{"not reached", v, ids(a), n == 5 || n == 6, true, b})
		v.Rows = []api.Row{row(a, b)}
		if below {
			if leader = c; voter {
				leader = a
			}
			hold(t, told{"does not reach one", v, ids(b), false, !voter, leader})
		} else {
			hold(t, told{"does not count", v, nil, true, true, b})
		}
	}
}

// P9.1: of several entries of an ID the first one counts, wherever it stands.
func TestFirstEntry(t *testing.T) {
	for _, w := range []told{
		{"Down first", api.View{Members: []api.Member{member(1, 6), member(1, 3)}, Seen: ids(a)}, nil, false, false, api.ID{}},
		{"Up first", api.View{Members: []api.Member{member(1, 3), member(1, 6)}, Seen: ids(a)}, nil, true, true, a},
		{"Joining first", api.View{Members: []api.Member{member(2, 3), member(1, 1), member(1, 3)}, Seen: ids(b)}, nil, true, true, b},
		{"Up first, not seen", api.View{Members: []api.Member{member(2, 3), member(1, 3), member(1, 1)}, Seen: ids(b)}, nil, false, false, a},
		{"Down first, of whose row it is", api.View{Members: []api.Member{member(2, 6), member(1, 3), member(2, 3)}, Rows: []api.Row{row(b, a)}, Seen: ids(a)}, nil, true, true, a},
		{"Up first, of whose row it is", api.View{Members: []api.Member{member(2, 3), member(1, 3), member(2, 6)}, Rows: []api.Row{row(b, a)}, Seen: ids(b)}, ids(a), false, true, b},
		{"Down first, not reached", api.View{Members: []api.Member{member(2, 3), member(1, 6), member(1, 3)}, Rows: []api.Row{row(b, a)}, Seen: ids(b)}, ids(a), true, true, b},
		{"Up first, not reached", api.View{Members: []api.Member{member(2, 3), member(1, 3), member(1, 6)}, Rows: []api.Row{row(b, a)}, Seen: ids(b)}, ids(a), false, true, b},
		{"rows twice", api.View{Members: []api.Member{member(1, 3), member(2, 3), member(3, 3)}, Rows: []api.Row{row(a), row(a, c), row(a, b)}, Seen: ids(a)}, ids(b, c), false, true, a},
	} {
		hold(t, w)
	}
	// Many entries, so that none may change places with another one of its ID.
	var v api.View
	for n := range 624 {
		v.Members = append(v.Members, member(1+n*7%12, uint8(3+n/12%4)))
	}
	for addr := 1; addr <= 12; addr++ {
		v.Seen = append(v.Seen, id(addr, 1))
	}
	hold(t, told{"many entries", v, nil, true, true, a})
	slices.Reverse(v.Members)
	hold(t, told{"many entries, in reverse order", v, nil, false, false, api.ID{}})
}

// P9.1: two lives of an address, and one at its floor, are IDs like others.
func TestLives(t *testing.T) {
	v := api.View{Members: []api.Member{{ID: a, Status: api.Up, No: 1}, {ID: x, Status: api.Up, No: 2}}, Floors: ids(a), Seen: ids(x)}
	hold(t, told{"two lives", v, nil, false, false, a})
	v.Rows = []api.Row{row(x, a)}
	hold(t, told{"the older one is not reached", v, ids(a), false, true, x})
	v.Rows = []api.Row{row(a, x)}
	hold(t, told{"the newer one is not reached", v, ids(x), false, false, a})
}
