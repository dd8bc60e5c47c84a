package roster_test

import (
	"math"
	"slices"
	"testing"

	"covey/api"
	"covey/roster"
)

// checkJoin calls Join both ways.
func checkJoin(t *testing.T, a, b, want known) {
	t.Helper()
	for _, got := range []known{join(a, b), join(b, a)} {
		if !equal(got, want) {
			t.Errorf("Join(%v, %v): %v, not %v", a, b, got, want)
		}
	}
}

func TestExamples(t *testing.T) {
	only := func(x api.Member) known { return known{m: members(x)} }
	checkJoin(t, only(member(1, 1, api.Up, 2)), only(member(1, 1, api.Joining, 0)), only(member(1, 1, api.Up, 2)))
	checkJoin(t, only(member(1, 1, api.Up, 2)), only(member(1, 2, api.Joining, 0)), known{members(member(1, 2, api.Joining, 0)), ids(id(1, 1))})
	checkJoin(t, only(member(1, 1, api.Down, 0)), known{f: ids(id(1, 1))}, known{f: ids(id(1, 1))})
	checkJoin(t, only(member(2, 1, api.Up, 4)), only(member(2, 1, api.Up, 3)), only(member(2, 1, api.Up, 3)))
	if got := roster.Next(members(member(1, 1, api.Up, 3), member(2, 1, api.Up, 5))); got != 6 {
		t.Errorf("Next of numbers 3 and 5: %d", got)
	}
}

// P7.2: members of one list alone, of both, of either status and number; floors in either list; two lives of an address.
func TestJoin(t *testing.T) {
	x, y, z := member(1, 1, api.Up, 1), member(2, 4, api.Joining, 0), member(12, 3, api.Down, 7)
	anew := member(2, 5, api.Weak, 0)
	gone := func(of api.ID, no int) api.Member { return api.Member{ID: of, Status: api.Removed, No: no} }
	for _, c := range []struct{ a, b, join known }{
		{known{}, known{}, known{}},
		{known{members(x, y, z), ids(id(2, 3), id(3, 8))}, known{}, known{members(x, y, z), ids(id(2, 3), id(3, 8))}},
		{known{m: members(x)}, known{m: members(y)}, known{m: members(x, y)}},
		{known{m: members(x, z)}, known{m: members(y)}, known{m: members(x, y, z)}},
		{known{m: members(x, y)}, known{m: members(y, z)}, known{m: members(x, y, z)}},
		{known{f: ids(id(1, 4))}, known{f: ids(id(2, 3))}, known{f: ids(id(1, 4), id(2, 3))}},
		{known{f: ids(id(1, 4), id(12, 9))}, known{f: ids(id(1, 3), id(2, 3), id(12, 10))}, known{f: ids(id(1, 4), id(2, 3), id(12, 10))}},
		{known{m: members(y)}, known{f: ids(id(2, 3))}, known{members(y), ids(id(2, 3))}},
		{known{m: members(y)}, known{f: ids(id(2, 4))}, known{f: ids(id(2, 4))}},
		{known{m: members(y)}, known{f: ids(id(2, 5))}, known{f: ids(id(2, 5))}},
		{known{m: members(y)}, known{f: ids(id(1, 5), id(3, 5))}, known{members(y), ids(id(1, 5), id(3, 5))}},
		{known{m: members(y)}, known{m: members(anew)}, known{members(anew), ids(y.ID)}},
		{known{m: members(x, y)}, known{members(anew, z), ids(id(2, 2))}, known{members(x, anew, z), ids(y.ID)}},
		{known{m: members(y)}, known{f: ids(id(2, 5)), m: members(member(2, 6, api.Up, 8))}, known{members(member(2, 6, api.Up, 8)), ids(id(2, 5))}},
		{known{m: members(member(2, 4, api.Up, 3))}, known{m: members(member(2, 4, api.Leaving, 2))}, known{m: members(member(2, 4, api.Leaving, 2))}},
		{known{m: members(member(2, 4, api.Up, 2))}, known{m: members(member(2, 4, api.Leaving, 3))}, known{m: members(member(2, 4, api.Leaving, 2))}},
		{known{m: members(member(2, 4, api.Up, 2))}, known{m: members(member(2, 4, api.Exiting, 0))}, known{m: members(member(2, 4, api.Exiting, 2))}},
		{known{m: members(member(2, 4, api.Exiting, 0))}, known{m: members(member(2, 4, api.Down, 0))}, known{m: members(member(2, 4, api.Down, 0))}},
		{known{m: members(member(2, 4, api.Up, 1))}, known{m: members(member(2, 4, api.Up, 1<<40))}, known{m: members(member(2, 4, api.Up, 1))}},
		{known{m: members(x, y)}, known{m: members(gone(y.ID, 0))}, known{members(x), ids(y.ID)}},
		{known{m: members(x, y)}, known{m: members(gone(anew.ID, 3))}, known{members(x), ids(anew.ID)}},
		{known{m: members(x, anew)}, known{m: members(gone(y.ID, 3))}, known{members(x, anew), ids(y.ID)}},
		{known{m: members(gone(x.ID, 0))}, known{m: members(gone(x.ID, 9))}, known{f: ids(x.ID)}},
	} {
		checkJoin(t, c.a, c.b, c.join)
	}
}

// P7.2: numbers of 0, 1, at the limit and one beyond, and any others, alone, against each other, and three of them: the least above 0 counts.
func TestNumbers(t *testing.T) {
	for _, p := range anyNumbers() {
		for _, q := range anyNumbers() {
			a, b := known{m: members(member(1, 1, api.Up, p))}, known{m: members(member(1, 1, api.Down, q))}
			want := member(1, 1, api.Down, 0)
			for _, no := range []int{p, q} {
				if no > 0 && (want.No == 0 || no < want.No) {
					want.No = no
				}
			}
			checkJoin(t, a, b, known{m: members(want)})
			checkJoin(t, known{m: append(a.m, b.m...)}, known{}, known{m: members(want)})
			checkTwo(t, a, b)
			checkTwo(t, known{m: append(b.m, member(1, 1, api.Up, 2))}, a)
		}
	}
}

// P7.2: each status against each other one, of one life, and of two: what is Removed is a floor, and what is no status does not count.
func TestStatuses(t *testing.T) {
	for s := range 256 {
		for _, u := range anyStatuses() {
			for _, inc := range []int{1, 2} {
				a, b := known{m: members(member(4, 1, uint8(s), 3))}, known{m: members(member(4, inc, u, 2))}
				checkTwo(t, a, b)
				checkTwo(t, b, a)
			}
		}
	}
}

// P7.2: entries that do not count change nothing, wherever they stand: IDs that are not valid, and what is no status.
func TestWhatDoesNotCount(t *testing.T) {
	a := known{members(member(1, 5, api.Up, 4), member(12, 5, api.Joining, 0)), ids(id(1, 2), id(3, 3))}
	for _, x := range anyIDs() {
		for _, m := range membersOf(ids(x), anyStatuses(), []int{0, 1, 2}) {
			if validID(x) && m.Status >= 1 && m.Status <= 7 {
				continue
			}
			f := []api.ID{x}
			if validID(x) {
				f = nil
			}
			checkJoin(t, a, known{members(m), f}, a)
			checkJoin(t, known{slices.Insert(slices.Clone(a.m), 1, m), slices.Insert(slices.Clone(a.f), 1, f...)}, known{}, a)
			if got := set(a, m); !equal(got, a) {
				t.Fatalf("Set(%v, %v): %v", a, m, got)
			}
		}
	}
	checkJoin(t, known{m: members(member(1, 1, 0, 1), member(1, 1, 8, 1), member(1, 9, 0, 1))}, known{m: members(member(1, 1, api.Up, 2))}, known{m: members(member(1, 1, api.Up, 2))})
}

// P7.2: lists that are not valid: in any order, several entries of an ID, several lives of an address, and what is gone in the same list.
func TestJoinOfListsThatAreNotValid(t *testing.T) {
	for _, c := range []struct{ a, join known }{
		{known{m: members(member(2, 1, api.Up, 1), member(1, 1, api.Up, 2))}, known{m: members(member(1, 1, api.Up, 2), member(2, 1, api.Up, 1))}},
		{known{m: members(member(1, 1, api.Up, 3), member(1, 1, api.Down, 0), member(1, 1, api.Weak, 2))}, known{m: members(member(1, 1, api.Down, 2))}},
		{known{m: members(member(1, 3, api.Up, 3), member(1, 1, api.Down, 1), member(1, 2, api.Weak, 2))}, known{members(member(1, 3, api.Up, 3)), ids(id(1, 2))}},
		{known{m: members(member(1, 1, api.Down, 1), member(1, 2, api.Weak, 2), member(1, 3, api.Up, 3))}, known{members(member(1, 3, api.Up, 3)), ids(id(1, 2))}},
		{known{m: members(member(1, 1, api.Down, 1), member(1, 3, api.Weak, 0), member(1, 2, api.Removed, 3))}, known{members(member(1, 3, api.Weak, 0)), ids(id(1, 2))}},
		{known{m: members(member(1, 3, api.Removed, 1), member(1, 2, api.Weak, 2), member(1, 3, api.Up, 3))}, known{f: ids(id(1, 3))}},
		{known{m: members(member(1, 4, api.Removed, 1), member(1, 2, api.Weak, 2), member(1, 3, api.Up, 3))}, known{f: ids(id(1, 4))}},
		{known{members(member(1, 3, api.Up, 3)), ids(id(1, 3), id(1, 2))}, known{f: ids(id(1, 3))}},
		{known{members(member(1, 3, api.Up, 3)), ids(id(1, 1), id(2, 9), id(1, 2), id(1, 1))}, known{members(member(1, 3, api.Up, 3)), ids(id(1, 2), id(2, 9))}},
		{known{members(member(1, 5, api.Weak, 4), member(1, 5, api.Joining, -4)), nil}, known{m: members(member(1, 5, api.Weak, 4))}},
		{known{members(member(1, 5, api.Up, -4), member(1, 5, api.Up, -2)), nil}, known{m: members(member(1, 5, api.Up, 0))}},
		{known{members(member(1, 5, api.Up, 1<<40+1), member(1, 5, api.Up, 1<<40+2)), nil}, known{m: members(member(1, 5, api.Up, 1<<40+1))}},
	} {
		checkJoin(t, c.a, known{}, c.join)
		checkJoin(t, c.a, c.a, c.join)
		checkJoin(t, c.a, c.join, c.join)
		checkJoin(t, known{c.a.m[:1], nil}, known{c.a.m[1:], c.a.f}, c.join)
	}
}

// P7.1, P7.2: all short lists, in every order, with every floor of theirs in either list.
func TestShortLists(t *testing.T) {
	few := membersOf(ids(id(1, 1), id(1, 2), id(2, 1)), []uint8{0, api.Joining, api.Up, api.Removed, 8}, []int{0, 1, 2})
	floors := listsOf(ids(id(1, 1), id(1, 2), id(2, 0)), 2)
	for i, m := range listsOf(few, 2) {
		f := floors[i%len(floors)]
		for _, of := range fewIDs()[:3] {
			checkOne(t, known{m, f}, of, few[i%len(few)])
		}
		for _, x := range few {
			checkTwo(t, known{m, f}, known{members(x), floors[(i+x.No)%len(floors)]})
		}
	}
	for _, m := range listsOf(few, 1) {
		for _, n := range listsOf(few, 1) {
			for _, f := range floors {
				for _, g := range floors[:4] {
					checkTwo(t, known{m, f}, known{n, g})
				}
			}
		}
	}
}

// P7.1, P7.2: lists of every length up to more than there are addresses: increasing, decreasing, and drawn of few and of many members.
func TestListsOfEveryLength(t *testing.T) {
	d := draw(2)
	few := membersOf(fewIDs(), []uint8{0, 1, 2, 3, 4, 5, 6}, []int{-1, 0, 1, 2})
	many := membersOf(anyIDs(), anyStatuses(), anyNumbers())
	for n := range 140 {
		up := rise(n % 13)
		for _, a := range []known{up, fall(up), d.any(n, few, fewIDs()), d.any(n, many, anyIDs()), d.any(n, many, fewIDs())} {
			for _, of := range append(fewIDs(), up.f...) {
				checkOne(t, a, of, many[d.below(len(many))])
				checkOne(t, a, of, few[d.below(len(few))])
			}
			checkTwo(t, a, up)
			checkTwo(t, up, a)
			checkTwo(t, a, d.any(d.below(n+1), few, fewIDs()))
			checkTwo(t, d.any(d.below(n+1), many, fewIDs()), a)
		}
	}
}

// P7.1, P7.2: long lists, the work for which must not grow with the square of their length.
func TestLongLists(t *testing.T) {
	const n = 1 << 18
	d := draw(3)
	var all []api.ID
	for addr := 1; addr <= 12; addr++ {
		for inc := 1; inc <= 1<<20; inc += 1 << 10 {
			all = append(all, id(addr, inc))
		}
	}
	long := d.any(n, membersOf(all, []uint8{1, 2, 3, 4, 5, 6}, []int{0, 1, 7}), all[:len(all)-1024])
	short := d.valid(3, 3)
	checkTwo(t, long, short)
	checkTwo(t, short, fall(long))
	checkTwo(t, long, long)
	checkOne(t, long, id(12, 1<<20-1023), member(12, 1<<20, api.Up, 3))
	lives := known{}
	for inc := range n {
		lives.m = append(lives.m, member(5, 1+inc, api.Up, n-inc))
		lives.f = append(lives.f, id(6, n-inc))
	}
	want := known{members(member(5, n, api.Up, 1)), ids(id(5, n-1), id(6, n))}
	checkJoin(t, lives, known{}, want)
	checkJoin(t, fall(lives), lives, want)
	if roster.May(lives.m, lives.f) || roster.May(lives.m, nil) || roster.May(nil, lives.f) {
		t.Error("May of many lives of an address: true")
	}
}

// P7.2: Set gives the union of what was and one member: a new one, one that is there, an older and a newer life, and one that is gone.
func TestSet(t *testing.T) {
	k := known{members(member(1, 1, api.Up, 1), member(3, 4, api.Up, 2)), ids(id(3, 2), id(4, 6))}
	for _, c := range []struct {
		x    api.Member
		want known
	}{
		{member(2, 9, api.Joining, 0), known{members(k.m[0], member(2, 9, api.Joining, 0), k.m[1]), k.f}},
		{member(1, 1, api.Up, 1), k},
		{member(1, 1, api.Joining, 0), k},
		{member(1, 1, api.Up, 2), k},
		{member(3, 4, api.Up, 1), known{members(k.m[0], member(3, 4, api.Up, 1)), k.f}},
		{member(3, 4, api.Leaving, 2), known{members(k.m[0], member(3, 4, api.Leaving, 2)), k.f}},
		{member(3, 4, api.Down, 0), known{members(k.m[0], member(3, 4, api.Down, 2)), k.f}},
		{member(3, 4, api.Removed, 0), known{members(k.m[0]), ids(id(3, 4), id(4, 6))}},
		{member(3, 9, api.Removed, 0), known{members(k.m[0]), ids(id(3, 9), id(4, 6))}},
		{member(3, 1, api.Removed, 2), k},
		{member(3, 1, api.Up, 1), k},
		{member(3, 2, api.Up, 1), k},
		{member(3, 3, api.Up, 1), known{k.m, ids(id(3, 3), id(4, 6))}},
		{member(3, 5, api.Joining, 0), known{members(k.m[0], member(3, 5, api.Joining, 0)), ids(id(3, 4), id(4, 6))}},
		{member(4, 6, api.Joining, 0), k},
		{member(4, 7, api.Joining, 0), known{append(slices.Clone(k.m), member(4, 7, api.Joining, 0)), k.f}},
		{member(2, 3, api.Removed, 0), known{k.m, ids(id(2, 3), id(3, 2), id(4, 6))}},
		{member(13, 3, api.Up, 3), k},
		{member(2, 0, api.Up, 3), k},
		{member(2, 1048577, api.Up, 3), k},
		{member(2, 3, 0, 3), k},
		{member(2, 3, 8, 3), k},
		{api.Member{}, k},
	} {
		if got := set(k, c.x); !equal(got, c.want) {
			t.Errorf("Set(%v, %v): %v, not %v", k, c.x, got, c.want)
		}
		if got := set(known{}, c.x); !equal(got, joinOf(known{m: members(c.x)})) {
			t.Errorf("Set(nothing, %v): %v", c.x, got)
		}
	}
}

// P7.2: Next: 1 at least; at the limit, and above it, the greatest number itself; of any members.
func TestNext(t *testing.T) {
	for _, c := range []struct {
		numbers []int
		want    int
	}{
		{nil, 1},
		{[]int{0}, 1},
		{[]int{-1}, 1},
		{[]int{-2}, 1},
		{[]int{math.MinInt}, 1},
		{[]int{1}, 2},
		{[]int{3, 5}, 6},
		{[]int{5, 3}, 6},
		{[]int{0, 7, 0, -9}, 8},
		{[]int{7, 7}, 8},
		{[]int{1099511627774}, 1099511627775},
		{[]int{1099511627775}, 1099511627776},
		{[]int{1099511627776}, 1099511627776},
		{[]int{1, 1099511627776, 2}, 1099511627776},
		{[]int{1099511627777}, 1099511627777},
		{[]int{1099511627777, 1099511627776}, 1099511627777},
		{[]int{math.MaxInt - 1}, math.MaxInt - 1},
		{[]int{math.MaxInt}, math.MaxInt},
	} {
		for _, status := range anyStatuses() {
			var m []api.Member
			for i, no := range c.numbers {
				m = append(m, member(13-i, i%2, status, no))
			}
			if got := roster.Next(m); got != c.want {
				t.Errorf("Next(%v): %d, not %d", m, got, c.want)
			}
		}
	}
}

// P7.2: Oldest: the least number above 0, of several the least ID, of several entries of that the first one.
func TestOldest(t *testing.T) {
	m := several()
	a, b := member(2, 1, api.Up, 3), member(1, 2, api.Up, 3)
	for _, c := range []struct {
		m    []api.Member
		want api.Member
		is   bool
	}{
		{nil, api.Member{}, false},
		{members(member(1, 1, api.Up, 0)), api.Member{}, false},
		{members(member(1, 1, api.Up, -1), member(2, 1, api.Down, 0)), api.Member{}, false},
		{members(member(1, 1, api.Up, 0), member(2, 1, api.Down, 1)), member(2, 1, api.Down, 1), true},
		{members(member(2, 1, api.Down, 1), member(1, 1, api.Up, 0)), member(2, 1, api.Down, 1), true},
		{members(member(2, 1, api.Up, 1<<40+1)), member(2, 1, api.Up, 1<<40+1), true},
		{members(member(2, 1, api.Up, 1<<40), member(1, 1, api.Up, 1<<40+1)), member(2, 1, api.Up, 1<<40), true},
		{members(a, b), b, true},
		{members(b, a), b, true},
		{members(a, member(2, 2, api.Up, 3)), a, true},
		{members(member(2, 2, api.Up, 3), a), a, true},
		{members(a, member(2, 1, api.Down, 3), member(2, 1, api.Weak, 3)), a, true},
		{members(member(2, 1, api.Down, 3), a), member(2, 1, api.Down, 3), true},
		{members(b, member(2, 1, 9, 2)), member(2, 1, 9, 2), true},
		{members(b, member(-1, 0, 0, 3)), member(-1, 0, 0, 3), true},
		{m, m[2], true},
		{m[3:], m[6], true},
		{m[7:], m[10], true},
		{m[7:10], api.Member{}, false},
	} {
		if got, is := roster.Oldest(c.m); is != c.is || got != c.want {
			t.Errorf("Oldest(%v): %v, %t, not %v, %t", c.m, got, is, c.want, c.is)
		}
	}
}

// P7.2: Same tells one more, one less, another order, and one member that differs, wherever it stands, in its ID, its status or its number.
func TestSame(t *testing.T) {
	differ := []func(x *api.Member){
		func(x *api.Member) { x.ID.Addr++ },
		func(x *api.Member) { x.ID.Inc++ },
		func(x *api.Member) { x.Status++ },
		func(x *api.Member) { x.No++ },
	}
	if !roster.Same(nil, nil) || !roster.Same(nil, []api.Member{}) || roster.Same(nil, members(api.Member{})) || roster.Same(members(api.Member{}), nil) {
		t.Error("Same of no members")
	}
	for n := 1; n <= 12; n++ {
		m := rise(n).m
		if !roster.Same(m, rise(n).m) || roster.Same(m, m[1:]) || roster.Same(m[1:], m) || roster.Same(m, m[:n-1]) || roster.Same(m[:n-1], m) || roster.Same(m, append(rise(n).m, m[n-1])) {
			t.Errorf("Same of %d members", n)
		}
		for i := range n {
			for way, bend := range differ {
				other := rise(n).m
				bend(&other[i])
				if roster.Same(m, other) || roster.Same(other, m) {
					t.Errorf("Same of %d members, other at %d in way %d: true", n, i, way)
				}
			}
		}
		if fallen := fall(rise(n)).m; n > 1 && (roster.Same(m, fallen) || roster.Same(fallen, m)) {
			t.Errorf("Same of %d members, and their reverse: true", n)
		}
	}
}
