package view_test

import (
	"math"
	"testing"

	"covey/api"
	"covey/view"
)

const most = 1099511627776

// checkChange holds what a node got that changed a view.
func checkChange(t *testing.T, call string, got api.View, e api.Errno, want api.View, wantE api.Errno) {
	t.Helper()
	if e != wantE || !equal(got, want) {
		t.Errorf("%s: %v, %v, not %v, %v", call, got, e, want, wantE)
	}
}

// P8.2: Put: a member that is new, that has another status, or number; the node is one ahead, and alone has seen it.
func TestPut(t *testing.T) {
	v := some()
	v.Seen = ids(id(3, 5), id(9, 9))
	for _, c := range []struct {
		m      api.Member
		change func(v *api.View)
	}{
		{member(4, 1, api.Joining, 0), func(v *api.View) { v.Members = append(v.Members, member(4, 1, api.Joining, 0)) }},
		{member(2, 7, api.Up, 3), func(v *api.View) {
			v.Members = members(v.Members[0], member(2, 7, api.Up, 3), v.Members[1])
		}},
		{member(1, 2, api.Leaving, 1), func(v *api.View) { v.Members[0].Status = api.Leaving }},
		{member(1, 2, api.Down, 5), func(v *api.View) { v.Members[0].Status = api.Down }},
		{member(3, 5, api.Up, 2), func(v *api.View) { v.Members[1] = member(3, 5, api.Up, 2) }},
		{member(3, 5, api.Weak, -7), func(v *api.View) { v.Members[1].Status = api.Weak }},
		{member(6, 10, api.Joining, 0), func(v *api.View) { v.Members = append(v.Members, member(6, 10, api.Joining, 0)) }},
		{member(3, 6, api.Joining, 0), func(v *api.View) {
			v.Members[1] = member(3, 6, api.Joining, 0)
			v.Floors = ids(v.Floors[0], id(3, 5), v.Floors[1])
			v.Rows[0].Not = ids(id(4, 1))
		}},
		{member(1, 2, api.Removed, 0), func(v *api.View) {
			v.Members = v.Members[1:]
			v.Floors[0].Inc = 2
			v.Rows = v.Rows[1:]
		}},
		{member(5, 1, api.Removed, 0), func(v *api.View) {
			v.Floors = ids(v.Floors[0], id(5, 1), v.Floors[1])
			v.Rows = v.Rows[:2]
		}},
		{member(6, 10, api.Removed, 0), func(v *api.View) { v.Floors[1].Inc = 10 }},
	} {
		for me, clock := range map[api.ID][]api.Tick{
			id(1, 2): ticks(tick(1, 1, 3), tick(1, 2, 2), tick(6, 9, 5)),
			id(6, 9): ticks(tick(1, 1, 3), tick(1, 2, 1), tick(6, 9, 6)),
			id(3, 5): ticks(tick(1, 1, 3), tick(1, 2, 1), tick(3, 5, 1), tick(6, 9, 5)),
		} {
			want := deep(v)
			c.change(&want)
			want.Clock, want.Seen = clock, ids(me)
			got, e := view.Put(v, me, c.m)
			checkChange(t, "Put", got, e, want, api.OK)
			if !view.May(got) || !mayOf(got) {
				t.Errorf("Put of %v: %v is not valid", c.m, got)
			}
		}
	}
}

// P8.2: Put of what is there already, of what is less, and of what is gone, changes nothing: neither the clock, nor who has seen it.
func TestPutOfNothingNew(t *testing.T) {
	v := some()
	for _, m := range []api.Member{
		v.Members[0],
		v.Members[1],
		member(1, 2, api.Joining, 0),
		member(1, 2, api.Up, 2),
		member(1, 2, api.Up, 0),
		member(1, 2, api.Up, -1),
		member(1, 2, api.Weak, math.MaxInt),
		member(1, 1, api.Down, 3),
		member(1, 1, api.Removed, 0),
		member(6, 9, api.Up, 1),
		member(6, 1, api.Removed, 1),
	} {
		for _, me := range ids(id(1, 1), id(1, 2), id(4, 1), id(12, 1048576)) {
			got, e := view.Put(v, me, m)
			checkChange(t, "Put", got, e, v, api.OK)
		}
	}
}

// P8.2: each status, and the values beside them, of somebody who is not known, and of one who has each status.
func TestPutOfEachStatus(t *testing.T) {
	for was := range uint8(7) {
		v := api.View{Members: members(member(2, 3, was, 0)), Rows: []api.Row{row(id(2, 3), 1, id(2, 2)), row(id(3, 3), 1, id(2, 3))}}
		if was == 3 || was == 4 {
			v.Members[0].No = 6
		}
		if was == 0 {
			v.Members = nil
		}
		for status := range 256 {
			for _, inc := range []int{2, 3, 4} {
				for _, no := range []int{-1, 0, 1, 6, 7} {
					m := member(2, inc, uint8(status), no)
					got, e := view.Put(v, id(4, 4), m)
					want, wantE := putOf(v, id(4, 4), m)
					checkChange(t, "Put", got, e, want, wantE)
					if (e == api.OK) != (1 <= status && status <= 7) {
						t.Errorf("Put of the status %d: %v", status, e)
					}
				}
			}
		}
	}
}

// P8.2: Row: the first one, the next one, one of nobody, one of the node itself, in any order, and twice.
func TestRow(t *testing.T) {
	v := some()
	for _, c := range []struct {
		me   api.ID
		not  []api.ID
		rows []api.Row
	}{
		{id(1, 2), nil, []api.Row{row(id(1, 2), 5), v.Rows[1], v.Rows[2]}},
		{id(1, 2), ids(id(1, 2)), []api.Row{row(id(1, 2), 5), v.Rows[1], v.Rows[2]}},
		{id(1, 2), ids(id(3, 5)), []api.Row{row(id(1, 2), 5, id(3, 5)), v.Rows[1], v.Rows[2]}},
		{id(1, 2), ids(id(9, 9), id(1, 2), id(4, 1), id(9, 9), id(3, 5)), []api.Row{row(id(1, 2), 5, id(3, 5), id(4, 1), id(9, 9)), v.Rows[1], v.Rows[2]}},
		{id(4, 1), ids(id(5, 1)), []api.Row{v.Rows[0], row(id(4, 1), 2, id(5, 1)), v.Rows[2]}},
		{id(1, 3), ids(id(1, 2)), []api.Row{v.Rows[0], row(id(1, 3), 1, id(1, 2)), v.Rows[1], v.Rows[2]}},
		{id(5, 2), ids(id(5, 1)), []api.Row{v.Rows[0], v.Rows[1], v.Rows[2], row(id(5, 2), 1, id(5, 1))}},
		// A row that has a new version has changed, even if whoever is new in it is Removed.
		{id(1, 2), ids(id(1, 1), id(3, 5), id(4, 1), id(6, 9)), []api.Row{row(id(1, 2), 5, id(3, 5), id(4, 1)), v.Rows[1], v.Rows[2]}},
		{id(2, 1), ids(id(6, 3)), []api.Row{v.Rows[0], row(id(2, 1), 1), v.Rows[1], v.Rows[2]}},
	} {
		want := deep(v)
		want.Rows, want.Seen = c.rows, ids(c.me)
		want.Clock = joinOf(v, api.View{Clock: ticks(tick(c.me.Addr, c.me.Inc, clockOf(v)[c.me]+1))}).Clock
		got, e := view.Row(v, c.me, c.not)
		checkChange(t, "Row", got, e, want, api.OK)
		if !view.May(got) {
			t.Errorf("Row(%v, %v): %v is not valid", c.me, c.not, got)
		}
	}
}

// P8.2: Row of what is there already, of nobody where there is no row, and of a node that is Removed, changes nothing.
func TestRowOfNothingNew(t *testing.T) {
	v := some()
	for _, c := range []struct {
		me  api.ID
		not []api.ID
	}{
		{id(1, 2), ids(id(3, 5), id(4, 1))},
		{id(1, 2), ids(id(4, 1), id(1, 2), id(3, 5), id(4, 1))},
		{id(4, 1), nil},
		{id(4, 1), ids(id(4, 1))},
		{id(2, 1), nil},
		{id(2, 1), ids(id(2, 1), id(2, 1))},
		{id(1, 1), ids(id(3, 5))},
		{id(6, 9), ids(id(3, 5), id(6, 9))},
		{id(6, 1), ids(id(6, 9))},
	} {
		got, e := view.Row(v, c.me, c.not)
		checkChange(t, "Row", got, e, v, api.OK)
	}
}

// P8.2: ErrForm: an ID of the node, or of the member, that is invalid, a status that is none; of Row one of those that are not reached. With it the view stays.
func TestErrForm(t *testing.T) {
	good := id(1, 2)
	for _, v := range []api.View{{}, some(), full(64), {Clock: ticks(tick(1, 2, most))}} {
		for _, bad := range append(invalidIDs(), anyIDs()...) {
			if validID(bad) {
				continue
			}
			got, e := view.Put(v, bad, member(2, 1, api.Up, 1))
			checkChange(t, "Put by an invalid ID", got, e, v, api.ErrForm)
			got, e = view.Put(v, good, api.Member{ID: bad, Status: api.Up, No: 1})
			checkChange(t, "Put of an invalid ID", got, e, v, api.ErrForm)
			got, e = view.Put(v, bad, api.Member{ID: bad, Status: api.Removed})
			checkChange(t, "Put of an invalid ID by itself", got, e, v, api.ErrForm)
			for _, not := range [][]api.ID{nil, ids(good)} {
				got, e = view.Row(v, bad, not)
				checkChange(t, "Row by an invalid ID", got, e, v, api.ErrForm)
			}
			for _, not := range [][]api.ID{ids(bad), ids(bad, good), ids(id(2, 1), bad, id(3, 1)), ids(id(2, 1), id(3, 1), bad)} {
				got, e = view.Row(v, good, not)
				checkChange(t, "Row of an invalid ID", got, e, v, api.ErrForm)
			}
		}
		for _, status := range []uint8{0, 8, 9, 128, 255} {
			got, e := view.Put(v, good, member(2, 1, status, 1))
			checkChange(t, "Put of no status", got, e, v, api.ErrForm)
		}
	}
}

// P8.2: ErrTooLarge: a clock at its limits, of counts and of entries; one below each of them there is room. Other nodes may still change it.
func TestClockAtItsLimit(t *testing.T) {
	me, m, not := id(1, 2), member(3, 5, api.Up, 2), ids(id(9, 9))
	for _, c := range []struct {
		clock []api.Tick
		e     api.Errno
	}{
		{ticks(tick(1, 2, most)), api.ErrTooLarge},
		{ticks(tick(1, 1, 1), tick(1, 2, most), tick(5, 1, 1)), api.ErrTooLarge},
		{ticks(tick(1, 2, most-1)), api.OK},
		{ticks(tick(1, 1, most), tick(2, 1, most)), api.OK},
		{full(64).Clock, api.ErrTooLarge},
		{full(63).Clock, api.OK},
		{append(ticks(tick(1, 2, most-1)), full(63).Clock...), api.OK},
		{append(ticks(tick(1, 2, most)), full(63).Clock...), api.ErrTooLarge},
	} {
		v := some()
		v.Clock = c.clock
		got, e := view.Put(v, me, m)
		want, wantE := putOf(v, me, m)
		checkChange(t, "Put", got, e, want, wantE)
		if e != c.e || e != api.OK && !view.Same(got, v) || e == api.OK && view.Core(got, v) {
			t.Errorf("Put at the clock %v: %v", c.clock, e)
		}
		got, e = view.Row(v, me, not)
		want, wantE = rowOf(v, me, not)
		checkChange(t, "Row", got, e, want, wantE)
		if e != c.e || e != api.OK && !view.Same(got, v) || e == api.OK && view.Core(got, v) {
			t.Errorf("Row at the clock %v: %v", c.clock, e)
		}
		// What changes nothing needs no room.
		for _, same := range []api.Member{v.Members[0], member(1, 1, api.Down, 1)} {
			got, e = view.Put(v, me, same)
			checkChange(t, "Put of nothing new", got, e, v, api.OK)
		}
		got, e = view.Row(v, me, v.Rows[0].Not)
		checkChange(t, "Row of nothing new", got, e, v, api.OK)
	}
}

// P8.2: ErrTooLarge of a row whose version is at its limit; one below it there is one version more. Put needs no version.
func TestVersionAtItsLimit(t *testing.T) {
	me := id(1, 2)
	v := some()
	v.Rows[0].Version = most
	for _, not := range [][]api.ID{nil, ids(id(3, 5)), ids(id(9, 9))} {
		got, e := view.Row(v, me, not)
		checkChange(t, "Row", got, e, v, api.ErrTooLarge)
		got, e = view.Row(v, id(4, 1), ids(id(1, 2)))
		want, wantE := rowOf(v, id(4, 1), ids(id(1, 2)))
		checkChange(t, "Row of another one", got, e, want, wantE)
	}
	got, e := view.Row(v, me, v.Rows[0].Not)
	checkChange(t, "Row of nothing new", got, e, v, api.OK)
	m := member(4, 1, api.Removed, 0)
	got, e = view.Put(v, me, m)
	want, _ := putOf(v, me, m)
	checkChange(t, "Put", got, e, want, api.OK)
	if got.Rows[0].Version != most || len(got.Rows[0].Not) != 1 {
		t.Errorf("Put of %v: rows %v", m, got.Rows)
	}
	v.Rows[0].Version--
	got, e = view.Row(v, me, nil)
	want, _ = rowOf(v, me, nil)
	checkChange(t, "Row", got, e, want, api.OK)
}

// P8.2: the first reason counts: ErrForm ahead of ErrTooLarge, whichever limits are reached.
func TestErrorsInTheirOrder(t *testing.T) {
	v := some()
	v.Clock, v.Rows[0].Version = ticks(tick(1, 2, most)), most
	for _, not := range [][]api.ID{ids(id(13, 1)), ids(id(3, 5), id(0, 1))} {
		got, e := view.Row(v, id(1, 2), not)
		checkChange(t, "Row", got, e, v, api.ErrForm)
	}
	got, e := view.Row(v, id(1, 2), nil)
	checkChange(t, "Row", got, e, v, api.ErrTooLarge)
	v.Clock = full(64).Clock
	got, e = view.Row(v, id(0, 2), nil)
	checkChange(t, "Row", got, e, v, api.ErrForm)
	got, e = view.Put(v, id(1, 1048577), member(4, 1, api.Up, 3))
	checkChange(t, "Put", got, e, v, api.ErrForm)
	got, e = view.Put(v, id(9, 9), member(4, 1, 8, 3))
	checkChange(t, "Put", got, e, v, api.ErrForm)
	got, e = view.Put(v, id(9, 9), member(13, 1, api.Up, 3))
	checkChange(t, "Put", got, e, v, api.ErrForm)
	got, e = view.Put(v, id(9, 9), member(4, 1, api.Up, 3))
	checkChange(t, "Put", got, e, v, api.ErrTooLarge)
}

// P8.2: Tell: what a node has, joined with what it receives, and itself in Seen: with nobody in Seen, with the node alone, with others, and with both.
func TestTell(t *testing.T) {
	me, other := id(3, 5), id(1, 2)
	for _, told := range [][]api.ID{nil, ids(me), ids(other), ids(other, me), ids(id(2, 2), id(7, 1))} {
		for _, seen := range [][]api.ID{nil, ids(me), ids(other), ids(other, me)} {
			v, w := some(), some()
			v.Seen, w.Seen = seen, told
			want := deep(v)
			want.Seen = setOf(seen, told, ids(me))
			checkView(t, "Tell of the same clock", view.Tell(v, w, me), want)
			w.Clock[0].N = 4
			w.Members[0].Status = api.Down
			want = deep(w)
			want.Seen = setOf(told, ids(me))
			checkView(t, "Tell of a clock ahead", view.Tell(v, w, me), want)
			want.Seen = setOf(told, ids(id(1, 1)))
			checkView(t, "Tell of a clock behind", view.Tell(w, v, id(1, 1)), want)
			v.Clock[2].N = 6
			want.Clock[2].N, want.Seen = 6, ids(me)
			checkView(t, "Tell of clocks apart", view.Tell(v, w, me), want)
			checkView(t, "Tell of clocks apart, either way", view.Tell(w, v, me), want)
		}
	}
	checkView(t, "Tell of nothing", view.Tell(api.View{}, api.View{}, me), api.View{Seen: ids(me)})
	v := some()
	v.Seen = nil
	want := deep(v)
	want.Seen = ids(me)
	checkView(t, "Tell nothing", view.Tell(v, api.View{}, me), want)
	checkView(t, "Tell one who knows nothing", view.Tell(api.View{}, v, me), want)
}

// P8.2: a node that changes one part after another, and changes nothing in between, counts each change once.
func TestManyChanges(t *testing.T) {
	d := draw(4)
	var v api.View
	changes := 0
	for n := range 3000 {
		me := id(5, 5)
		was := v
		var e api.Errno
		if n%2 == 0 {
			m := member(1+d.below(4), 1+d.below(1+n/200), uint8(1+d.below(7)), 0)
			if m.Status == 3 || m.Status == 4 {
				m.No = 1 + d.below(5)
			}
			v, e = view.Put(v, me, m)
		} else {
			v, e = view.Row(v, me, pick(&d, d.below(3), ids(id(1, 1), id(2, 2), id(3, 9), id(5, 5))))
		}
		if e != api.OK || !view.May(v) || !view.Covers(v, was) {
			t.Fatalf("%v became %v, %v", was, v, e)
		}
		if equal(v, was) {
			continue
		}
		changes++
		if len(v.Clock) != 1 || v.Clock[0] != tick(5, 5, changes) || view.Covers(was, v) {
			t.Fatalf("%v became %v by the change %d", was, v, changes)
		}
	}
	if changes < 500 || changes > 2900 {
		t.Errorf("%d changes", changes)
	}
}

// P8.2: all calls about one view, against the model.
func TestOneDrawn(t *testing.T) {
	d := draw(5)
	nodes := append(ids(id(1, 1), id(1, 2), id(1, 3), id(2, 1), id(3, 1), id(3, 2), id(4, 3), id(12, 101)), invalidIDs()[:3]...)
	for _, v := range append(drawn(6), some(), full(12), full(64)) {
		for range 60 {
			me, x := nodes[d.below(len(nodes))], nodes[d.below(len(nodes))]
			m := api.Member{ID: x, Status: uint8(d.below(9)), No: d.below(4) - 1}
			checkOne(t, v, me, m, pick(&d, d.below(4), nodes[:8+d.below(2)]))
		}
	}
}
