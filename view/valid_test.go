package view_test

import (
	"testing"

	"covey/api"
	"covey/view"
)

// some is a valid view that has something of each part: 1.2 and 3.5 are members, 4.1 and 5.1 are none, 1.1 and 6.9 are Removed.
func some() api.View {
	return api.View{
		Members: members(member(1, 2, api.Up, 1), member(3, 5, api.Joining, 0)),
		Floors:  ids(id(1, 1), id(6, 9)),
		Rows:    []api.Row{row(id(1, 2), 4, id(3, 5), id(4, 1)), row(id(4, 1), 1), row(id(5, 1), 2, id(1, 3))},
		Clock:   ticks(tick(1, 1, 3), tick(1, 2, 1), tick(6, 9, 5)),
		Seen:    ids(id(1, 1), id(1, 2), id(5, 1)),
	}
}

// P8.1: what may be: nothing, each part alone, each limit, each status with its numbers, and what is just above its floor.
func TestMay(t *testing.T) {
	v := some()
	for _, v := range []api.View{
		{},
		{Members: []api.Member{}, Floors: []api.ID{}, Rows: []api.Row{}, Clock: []api.Tick{}, Seen: []api.ID{}},
		v,
		{Members: v.Members},
		{Members: v.Members, Floors: v.Floors},
		{Floors: v.Floors},
		{Rows: v.Rows},
		{Rows: []api.Row{{Of: id(1, 1), Version: 1, Not: []api.ID{}}}},
		{Clock: v.Clock},
		{Seen: v.Seen},
		{Seen: ids(id(1, 1))},
		{Seen: ids(id(1, 1), id(1, 2), id(2, 1), id(12, 1048576))},
		{Floors: ids(id(1, 7)), Seen: ids(id(1, 7)), Clock: ticks(tick(1, 6, 1), tick(1, 7, 1))},
		{Floors: ids(id(1, 7)), Rows: []api.Row{row(id(1, 8), 1, id(2, 1)), row(id(2, 1), 1, id(1, 8))}},
		{Floors: ids(id(1, 7), id(3, 7)), Rows: []api.Row{row(id(2, 1), 1), row(id(4, 1), 1, id(2, 1), id(5, 7))}},
		{Rows: []api.Row{row(id(1, 1), 1099511627776, id(12, 1048576))}, Clock: ticks(tick(12, 1048576, 1099511627776))},
		{Floors: ids(id(12, 1048575)), Members: members(member(12, 1048576, api.Down, 1099511627776))},
		full(0), full(1), full(12), full(63), full(64),
	} {
		if !view.May(v) {
			t.Errorf("May(%v): false", v)
		}
		if !mayOf(v) {
			t.Errorf("the model refuses %v", v)
		}
	}
}

// P8.1: what may not be, for one reason each: members, floors, rows, clock, Seen.
func TestMayNot(t *testing.T) {
	for k, wrong := range []func(v *api.View){
		func(v *api.View) { v.Members[0].ID.Addr = 0 },
		func(v *api.View) { v.Members[1].ID.Addr = 13 },
		func(v *api.View) { v.Members[1].ID.Inc = 0 },
		func(v *api.View) { v.Members[1].ID.Inc = 1048577 },
		func(v *api.View) { v.Members[0].ID.Inc = 1 },
		func(v *api.View) { v.Members[0].Status = 0 },
		func(v *api.View) { v.Members[0].Status = 7 },
		func(v *api.View) { v.Members[0].Status = 8 },
		func(v *api.View) { v.Members[0].No = 0 },
		func(v *api.View) { v.Members[0].No = -1 },
		func(v *api.View) { v.Members[0].No = 1099511627777 },
		func(v *api.View) { v.Members[1].No = 1 },
		func(v *api.View) { v.Members[1] = v.Members[0] },
		func(v *api.View) { v.Members[1] = member(1, 3, api.Up, 2) },
		func(v *api.View) { v.Members[0], v.Members[1] = v.Members[1], v.Members[0] },
		func(v *api.View) { v.Floors[0].Addr = 0 },
		func(v *api.View) { v.Floors[1].Addr = 13 },
		func(v *api.View) { v.Floors[0].Inc = 0 },
		func(v *api.View) { v.Floors[1].Inc = 1048577 },
		func(v *api.View) { v.Floors[1] = v.Floors[0] },
		func(v *api.View) { v.Floors[0] = id(6, 8) },
		func(v *api.View) { v.Floors[0], v.Floors[1] = v.Floors[1], v.Floors[0] },
		func(v *api.View) { v.Floors[0].Inc = 2 },
		func(v *api.View) { v.Floors[0] = id(3, 5) },
		func(v *api.View) { v.Floors[0] = id(3, 6) },
		func(v *api.View) { v.Rows[0].Of.Addr = 0 },
		func(v *api.View) { v.Rows[2].Of.Inc = 1048577 },
		func(v *api.View) { v.Rows[1].Of = id(3, 0) },
		func(v *api.View) { v.Rows[0].Version = 0 },
		func(v *api.View) { v.Rows[1].Version = -1 },
		func(v *api.View) { v.Rows[2].Version = 1099511627777 },
		func(v *api.View) { v.Rows[1] = v.Rows[0] },
		func(v *api.View) { v.Rows[0], v.Rows[1] = v.Rows[1], v.Rows[0] },
		func(v *api.View) { v.Rows[0].Not[0] = v.Rows[0].Not[1] },
		func(v *api.View) { v.Rows[0].Not[0] = id(4, 2) },
		func(v *api.View) { v.Rows[0].Not[0] = id(0, 1) },
		func(v *api.View) { v.Rows[0].Not[1] = id(13, 1) },
		func(v *api.View) { v.Rows[0].Not[0] = v.Rows[0].Of },
		func(v *api.View) { v.Rows = full(65).Rows },
		func(v *api.View) { v.Clock[0].Of.Addr = 0 },
		func(v *api.View) { v.Clock[2].Of.Inc = 1048577 },
		func(v *api.View) { v.Clock[0].N = 0 },
		func(v *api.View) { v.Clock[1].N = -1 },
		func(v *api.View) { v.Clock[2].N = 1099511627777 },
		func(v *api.View) { v.Clock[1] = v.Clock[0] },
		func(v *api.View) { v.Clock[0], v.Clock[1] = v.Clock[1], v.Clock[0] },
		func(v *api.View) { v.Clock = full(65).Clock },
		func(v *api.View) { v.Seen[0] = api.ID{} },
		func(v *api.View) { v.Seen[0] = id(0, 1) },
		func(v *api.View) { v.Seen[0] = id(1, 0) },
		func(v *api.View) { v.Seen[1] = id(3, 1048577) },
		func(v *api.View) { v.Seen[1] = id(4, -1) },
		func(v *api.View) { v.Seen[2] = id(13, 1) },
		func(v *api.View) { v.Seen[2] = id(5, 1048577) },
		func(v *api.View) { v.Seen[1] = v.Seen[0] },
		func(v *api.View) { v.Seen[2] = v.Seen[1] },
		func(v *api.View) { v.Seen[0], v.Seen[1] = v.Seen[1], v.Seen[0] },
		func(v *api.View) { v.Seen[1], v.Seen[2] = v.Seen[2], v.Seen[1] },
	} {
		v := some()
		wrong(&v)
		if view.May(v) {
			t.Errorf("way %d: May(%v): true", k, v)
		}
		if mayOf(v) {
			t.Errorf("way %d: the model takes %v", k, v)
		}
	}
}

// P8.1: nobody in rows is Removed: neither whose row it is, nor who is in it, at the floor or below it.
func TestMayOfRemovedInRows(t *testing.T) {
	for floor := 1; floor <= 9; floor++ {
		for _, r := range []api.Row{row(id(2, 5), 1), row(id(2, 5), 1, id(3, 1)), row(id(3, 1), 1, id(2, 5)), row(id(1, 1), 1, id(1, 2), id(2, 5), id(3, 5))} {
			v := api.View{Floors: ids(id(2, floor)), Rows: []api.Row{r}}
			if got := view.May(v); got != (floor < 5) {
				t.Errorf("May(%v): %t", v, got)
			}
			v.Floors = ids(id(1, 1048576-floor), id(3, 1048576))
			if got := view.May(v); got != (len(r.Not) == 0) {
				t.Errorf("May(%v): %t", v, got)
			}
			v.Floors = ids(id(4, 1048576))
			if !view.May(v) {
				t.Errorf("May(%v): false", v)
			}
		}
	}
}

// P8.1: Seen may hold whoever is valid, member or not, Removed or not, and as many as there are.
func TestMayOfManySeen(t *testing.T) {
	v := api.View{Floors: ids(id(5, 300))}
	for addr := 1; addr <= 12; addr++ {
		for inc := 1; inc <= 500; inc++ {
			v.Seen = append(v.Seen, id(addr, inc))
		}
	}
	if !view.May(v) {
		t.Error("May of a view that many have seen: false")
	}
	for _, at := range []int{0, 1, 499, 500, 3000, 5998, 5999} {
		for _, x := range invalidIDs() {
			was := v.Seen[at]
			v.Seen[at] = x
			if view.May(v) {
				t.Errorf("May of Seen with %v at %d: true", x, at)
			}
			v.Seen[at] = was
		}
	}
}

// P8.1: May of whatever there is, against the model.
func TestMayOfAny(t *testing.T) {
	valid := 0
	for _, v := range append(append(anyViews(1), drawn(2)...), some(), full(64), full(65)) {
		got := view.May(v)
		if got != mayOf(v) {
			t.Errorf("May(%v): %t", v, got)
		}
		if got {
			valid++
		}
	}
	if valid < 90 {
		t.Errorf("%d valid views alone", valid)
	}
}
