package view_test

import (
	"slices"
	"testing"

	"covey/api"
	"covey/view"
)

func checkView(t *testing.T, call string, got, want api.View) {
	t.Helper()
	if !equal(got, want) {
		t.Errorf("%s: %v, not %v", call, got, want)
	}
}

// The chapter's examples.
func TestExamples(t *testing.T) {
	up := api.View{Members: members(member(1, 2, api.Up, 4))}
	down := api.View{Members: members(member(1, 2, api.Down, 4))}
	checkView(t, "Up and Down", view.Join(up, down), down)
	checkView(t, "Down and Up", view.Join(down, up), down)

	with := api.View{Members: members(member(1, 2, api.Up, 4)), Rows: []api.Row{row(id(1, 2), 1, id(3, 1)), row(id(3, 1), 1, id(1, 2), id(4, 1))}}
	floor := api.View{Floors: ids(id(1, 2))}
	want := api.View{Floors: floor.Floors, Rows: []api.Row{row(id(3, 1), 1, id(4, 1))}}
	checkView(t, "a floor", view.Join(with, floor), want)
	checkView(t, "a floor ahead", view.Join(floor, with), want)

	one := api.View{Clock: ticks(tick(1, 1, 2)), Seen: ids(id(1, 1))}
	more := api.View{Clock: ticks(tick(1, 1, 2), tick(2, 1, 1)), Seen: ids(id(2, 1), id(3, 1))}
	other := api.View{Clock: ticks(tick(2, 1, 1)), Seen: ids(id(2, 1))}
	checkView(t, "a clock behind", view.Join(one, more), more)
	checkView(t, "a clock ahead", view.Join(more, one), more)
	apart := api.View{Clock: more.Clock}
	checkView(t, "clocks apart", view.Join(one, other), apart)
	checkView(t, "clocks apart, either way", view.Join(other, one), apart)
}

// P8.1: Seen, by clocks: the same, one behind the other, apart; with none, some, and all of those who have seen one in the other.
func TestJoinSeen(t *testing.T) {
	clocks := [][]api.Tick{nil, {}, ticks(tick(1, 1, 1)), ticks(tick(1, 1, 2)), ticks(tick(1, 2, 1)), ticks(tick(2, 1, 1)), ticks(tick(1, 1, 1), tick(2, 1, 1)), ticks(tick(1, 1, 2), tick(2, 1, 1)), ticks(tick(1, 1, 1), tick(2, 1, 2))}
	seen := [][]api.ID{nil, {}, ids(id(1, 1)), ids(id(2, 1)), ids(id(1, 1), id(2, 1)), ids(id(1, 2), id(3, 1)), ids(id(1, 1), id(1, 2), id(2, 1))}
	for i, c := range clocks {
		for k, d := range clocks {
			for _, s := range seen {
				for _, u := range seen {
					a, b := api.View{Clock: c, Seen: s}, api.View{Clock: d, Seen: u}
					got := view.Join(a, b)
					checkView(t, "Join", got, joinOf(a, b))
					if i == k && !slices.Equal(got.Seen, setOf(s, u)) {
						t.Errorf("Join(%v, %v): %v has not been seen by both", a, b, got)
					}
				}
			}
		}
	}
}

// P8.1: Seen hangs on the clocks alone, and of members, floors and rows each ones that either has are there, whatever the clocks say.
func TestJoinParts(t *testing.T) {
	a := api.View{
		Members: members(member(1, 1, api.Up, 1), member(2, 1, api.Weak, 0), member(4, 2, api.Leaving, 9)),
		Floors:  ids(id(3, 1), id(4, 1)),
		Rows:    []api.Row{row(id(1, 1), 3, id(2, 1)), row(id(4, 2), 5, id(1, 1), id(5, 5))},
		Clock:   ticks(tick(1, 1, 7)),
		Seen:    ids(id(1, 1)),
	}
	b := api.View{
		Members: members(member(1, 1, api.Leaving, 1), member(2, 2, api.Joining, 0), member(5, 5, api.Down, 0)),
		Floors:  ids(id(3, 4), id(4, 1)),
		Rows:    []api.Row{row(id(1, 1), 3, id(5, 5)), row(id(2, 2), 1, id(1, 1)), row(id(3, 5), 1), row(id(4, 2), 4, id(1, 1))},
		Clock:   ticks(tick(1, 1, 7), tick(5, 5, 1)),
		Seen:    ids(id(5, 5)),
	}
	want := api.View{
		Members: members(member(1, 1, api.Leaving, 1), member(2, 2, api.Joining, 0), member(4, 2, api.Leaving, 9), member(5, 5, api.Down, 0)),
		Floors:  ids(id(2, 1), id(3, 4), id(4, 1)),
		Rows:    []api.Row{row(id(1, 1), 3, id(5, 5)), row(id(2, 2), 1, id(1, 1)), row(id(3, 5), 1), row(id(4, 2), 5, id(1, 1), id(5, 5))},
		Clock:   ticks(tick(1, 1, 7), tick(5, 5, 1)),
		Seen:    ids(id(5, 5)),
	}
	checkView(t, "Join", view.Join(a, b), want)
	checkView(t, "Join, either way", view.Join(b, a), want)
	a.Clock = b.Clock
	want.Seen = ids(id(1, 1), id(5, 5))
	checkView(t, "Join of the same clock", view.Join(a, b), want)
	a.Clock = ticks(tick(1, 1, 8))
	want.Clock, want.Seen = ticks(tick(1, 1, 8), tick(5, 5, 1)), nil
	checkView(t, "Join of clocks apart", view.Join(b, a), want)
}

// P8.1: a row of one who is Removed by the other's floor, or by a newer life that the other one has, and one who is in a row: by the joined floors.
func TestJoinRemovesFromRows(t *testing.T) {
	rows := []api.Row{row(id(1, 1), 1, id(2, 5), id(3, 1)), row(id(2, 5), 2, id(1, 1)), row(id(3, 1), 3)}
	for _, c := range []struct {
		b    api.View
		want api.View
	}{
		{api.View{Floors: ids(id(2, 4))}, api.View{Floors: ids(id(2, 4)), Rows: rows}},
		{api.View{Floors: ids(id(2, 5))}, api.View{Floors: ids(id(2, 5)), Rows: []api.Row{row(id(1, 1), 1, id(3, 1)), rows[2]}}},
		{api.View{Floors: ids(id(2, 6))}, api.View{Floors: ids(id(2, 6)), Rows: []api.Row{row(id(1, 1), 1, id(3, 1)), rows[2]}}},
		{api.View{Floors: ids(id(2, 4)), Members: members(member(2, 6, api.Joining, 0))}, api.View{Members: members(member(2, 6, api.Joining, 0)), Floors: ids(id(2, 4)), Rows: rows}},
	} {
		a := api.View{Rows: rows}
		checkView(t, "Join", view.Join(a, c.b), c.want)
		checkView(t, "Join, either way", view.Join(c.b, a), c.want)
	}
	// Here only both together prove that 2.5 has ended.
	a := api.View{Members: members(member(2, 5, api.Up, 1)), Rows: rows}
	b := api.View{Members: members(member(2, 6, api.Joining, 0)), Rows: []api.Row{row(id(4, 1), 1, id(2, 5))}}
	want := api.View{Members: b.Members, Floors: ids(id(2, 5)), Rows: []api.Row{row(id(1, 1), 1, id(3, 1)), rows[2], row(id(4, 1), 1)}}
	checkView(t, "Join", view.Join(a, b), want)
	checkView(t, "Join, either way", view.Join(b, a), want)
}

// P8.1: whoever is Removed stays in the clock, and in Seen.
func TestJoinKeepsRemovedInClocks(t *testing.T) {
	a := api.View{Clock: ticks(tick(2, 1, 4), tick(3, 1, 1)), Seen: ids(id(2, 1), id(3, 1))}
	b := api.View{Floors: ids(id(2, 1)), Clock: ticks(tick(3, 1, 1))}
	want := api.View{Floors: b.Floors, Clock: a.Clock, Seen: a.Seen}
	checkView(t, "Join", view.Join(a, b), want)
	checkView(t, "Join, either way", view.Join(b, a), want)
}

// P8.1: a view of nothing.
func TestNothing(t *testing.T) {
	empty := api.View{Members: []api.Member{}, Floors: []api.ID{}, Rows: []api.Row{}, Clock: []api.Tick{}, Seen: []api.ID{}}
	for _, a := range []api.View{{}, empty} {
		for _, b := range []api.View{{}, empty} {
			checkTwo(t, a, b, id(1, 1))
			if !view.May(a) || !view.Same(a, b) || !view.Core(a, b) || !view.Covers(a, b) {
				t.Errorf("%v and %v are not the same, or may not be", a, b)
			}
		}
		v := some()
		checkView(t, "Join of nothing", view.Join(a, v), v)
		checkView(t, "Join with nothing", view.Join(v, a), v)
		if !view.Covers(v, a) || view.Covers(a, v) || view.Same(a, v) || view.Same(v, a) || view.Core(a, v) || view.Core(v, a) {
			t.Errorf("%v is like nothing", v)
		}
	}
}

// differing are changes of the view some: what it is afterwards is another one, and valid.
func differing() []func(v *api.View) {
	return []func(v *api.View){
		func(v *api.View) { v.Members[0].ID.Inc = 3 },
		func(v *api.View) { v.Members[1].ID.Addr = 2 },
		func(v *api.View) { v.Members[0].Status = api.Leaving },
		func(v *api.View) { v.Members[0].No = 2 },
		func(v *api.View) { v.Members = v.Members[:1] },
		func(v *api.View) { v.Members = v.Members[1:] },
		func(v *api.View) { v.Members = append(v.Members, member(4, 1, api.Up, 5)) },
		func(v *api.View) { v.Floors[1].Addr = 5; v.Rows = v.Rows[:2] },
		func(v *api.View) { v.Floors[1].Inc = 8 },
		func(v *api.View) { v.Floors = v.Floors[:1] },
		func(v *api.View) { v.Floors = v.Floors[1:] },
		func(v *api.View) { v.Floors = append(v.Floors, id(7, 1)) },
		func(v *api.View) { v.Rows[0].Of = id(1, 3) },
		func(v *api.View) { v.Rows[0].Version = 5 },
		func(v *api.View) { v.Rows[0].Not = v.Rows[0].Not[:1] },
		func(v *api.View) { v.Rows[0].Not[1] = id(4, 2) },
		func(v *api.View) { v.Rows[1].Not = ids(id(1, 2)) },
		func(v *api.View) { v.Rows = v.Rows[:2] },
		func(v *api.View) { v.Rows = v.Rows[1:] },
		func(v *api.View) { v.Rows = append(v.Rows, row(id(7, 1), 1)) },
		func(v *api.View) { v.Clock[0].N = 4 },
		func(v *api.View) { v.Clock[2].Of = id(6, 8) },
		func(v *api.View) { v.Clock = v.Clock[:2] },
		func(v *api.View) { v.Clock = v.Clock[1:] },
		func(v *api.View) { v.Clock = append(v.Clock, tick(7, 1, 1)) },
	}
}

// P8.1: Same and Core: of each part what differs alone makes another view; Seen makes another one for Same alone.
func TestSame(t *testing.T) {
	v := some()
	if w := deep(v); !view.Same(v, w) || !view.Core(v, w) || !view.Same(v, v) {
		t.Errorf("%v is not the same as itself", v)
	}
	for k, change := range differing() {
		w := some()
		change(&w)
		if !view.May(w) || view.Same(v, w) || view.Same(w, v) || view.Core(v, w) || view.Core(w, v) {
			t.Errorf("way %d: %v is the same as %v, or is not valid", k, w, v)
		}
		w.Seen = nil
		if view.Same(v, w) || view.Core(v, w) {
			t.Errorf("way %d: %v is the same as %v", k, w, v)
		}
	}
	for _, seen := range [][]api.ID{nil, {}, ids(id(1, 1)), ids(id(1, 1), id(1, 2)), ids(id(1, 1), id(1, 2), id(5, 2)), ids(id(1, 2), id(5, 1)), ids(id(1, 1), id(1, 2), id(5, 1), id(6, 1))} {
		w := some()
		w.Seen = seen
		if view.Same(v, w) || view.Same(w, v) || !view.Core(v, w) || !view.Core(w, v) {
			t.Errorf("Seen %v, and %v: Same %t, Core %t", v.Seen, seen, view.Same(v, w), view.Core(v, w))
		}
	}
}

// P8.1: Covers: of each part what the other one has more is enough not to be covered; who has seen it is not asked.
func TestCovers(t *testing.T) {
	v := some()
	for k, more := range []func(v *api.View){
		func(v *api.View) { v.Members[0].Status = api.Leaving },
		func(v *api.View) { v.Members[1] = member(3, 5, api.Up, 2) },
		func(v *api.View) { v.Members = append(v.Members, member(4, 1, api.Joining, 0)) },
		func(v *api.View) { v.Members[1] = member(3, 6, api.Joining, 0) },
		func(v *api.View) { v.Floors[1].Inc = 10 },
		func(v *api.View) { v.Floors = append(v.Floors, id(7, 1)) },
		func(v *api.View) { v.Rows[0].Version = 5 },
		func(v *api.View) { v.Rows[0] = row(id(1, 2), 5) },
		func(v *api.View) { v.Rows[0].Not = ids(id(2, 2), id(3, 5), id(4, 1)) },
		func(v *api.View) { v.Rows = append(v.Rows, row(id(7, 1), 1)) },
		func(v *api.View) { v.Clock[0].N = 4 },
		func(v *api.View) { v.Clock = append(v.Clock, tick(7, 1, 1)) },
	} {
		w := some()
		more(&w)
		for _, seen := range [][]api.ID{nil, v.Seen, ids(id(9, 9))} {
			w.Seen = seen
			if !view.May(w) || view.Covers(v, w) || !coversOf(view.Join(w, v), w) || !view.Covers(view.Join(w, v), v) {
				t.Errorf("way %d: %v and %v: Covers %t", k, v, w, view.Covers(v, w))
			}
		}
	}
	w := some()
	w.Seen = nil
	if !view.Covers(v, w) || !view.Covers(w, v) || !view.Covers(v, v) {
		t.Errorf("%v does not cover itself", v)
	}
	// The lesser number counts: so it is the lesser one that is more.
	late, early := api.View{Members: members(member(1, 1, api.Up, 9))}, api.View{Members: members(member(1, 1, api.Up, 2))}
	if view.Covers(late, early) || !view.Covers(early, late) {
		t.Error("the greater number covers the lesser one")
	}
}

// P8.1: all calls about two views, against the model.
func TestTwoDrawn(t *testing.T) {
	all := append(drawn(3), some(), full(12), full(64))
	for i, a := range all {
		for k, b := range all {
			checkTwo(t, a, b, id(1+(i+k)%12, 1+i%3))
		}
	}
}
