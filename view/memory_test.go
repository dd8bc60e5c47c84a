package view_test

import (
	"slices"
	"testing"

	"covey/api"
	"covey/view"
)

// What no list holds.
var (
	markID     = id(-7, -7)
	markMember = api.Member{ID: markID, Status: 77, No: -7}
	markTick   = api.Tick{Of: markID, N: -7}
	markRow    = api.Row{Of: markID, Version: -7, Not: ids(markID)}
)

// spared returns a view in new memory, with spare room behind all its lists.
func spared(v api.View) api.View {
	out := deep(v)
	for i, r := range out.Rows {
		out.Rows[i].Not = roomy(r.Not, markID)
	}
	return api.View{Members: roomy(out.Members, markMember), Floors: roomy(out.Floors, markID), Rows: roomy(out.Rows, markRow), Clock: roomy(out.Clock, markTick), Seen: roomy(out.Seen, markID)}
}

// roomy returns a list with room for three more behind it, in which marks stand.
func roomy[T any](l []T, mark T) []T {
	return append(slices.Clone(l), mark, mark, mark)[:len(l)]
}

// untouched reports whether a view with spare room is what it was, that room included.
func untouched(v, was api.View) bool {
	marked := true
	for i := range 3 {
		r := v.Rows[:len(v.Rows)+3][len(v.Rows)+i]
		marked = marked && v.Members[:len(v.Members)+3][len(v.Members)+i] == markMember &&
			v.Floors[:len(v.Floors)+3][len(v.Floors)+i] == markID &&
			v.Clock[:len(v.Clock)+3][len(v.Clock)+i] == markTick &&
			v.Seen[:len(v.Seen)+3][len(v.Seen)+i] == markID &&
			r.Of == markID && r.Version == -7
		for _, r := range v.Rows {
			marked = marked && r.Not[:len(r.Not)+3][len(r.Not)+i] == markID
		}
	}
	return marked && equal(v, was)
}

// overwrite overwrites a list, and the room behind it.
func overwrite[T any](l []T, mark T) {
	for i := range l[:cap(l)] {
		l[:cap(l)][i] = mark
	}
}

// fill overwrites all lists of a view, one by one: none may change another one.
func fill(t *testing.T, v api.View) {
	t.Helper()
	want := deep(v)
	hold := func(which string) {
		t.Helper()
		if !equal(v, want) {
			t.Fatalf("with %s another list of %v changed, to %v", which, want, v)
		}
	}
	for i, r := range v.Rows {
		overwrite(r.Not, markID)
		v.Rows[i].Not, want.Rows[i].Not = nil, nil
		hold("a row")
	}
	overwrite(v.Members, markMember)
	v.Members, want.Members = nil, nil
	hold("members")
	overwrite(v.Floors, markID)
	v.Floors, want.Floors = nil, nil
	hold("floors")
	overwrite(v.Rows, markRow)
	v.Rows, want.Rows = nil, nil
	hold("rows")
	overwrite(v.Clock, markTick)
	v.Clock, want.Clock = nil, nil
	hold("the clock")
	overwrite(v.Seen, markID)
}

// operation is a call that answers a view.
type operation func(a, b api.View) api.View

// operations are all calls that answer views: with something changed, with nothing, and with each error.
func operations() []operation {
	put := func(me api.ID, m api.Member) operation {
		return func(a, _ api.View) api.View { v, _ := view.Put(a, me, m); return v }
	}
	row := func(me api.ID, not ...api.ID) operation {
		return func(a, _ api.View) api.View { v, _ := view.Row(a, me, not); return v }
	}
	return []operation{
		view.Join,
		func(a, b api.View) api.View { return view.Join(b, a) },
		func(a, b api.View) api.View { return view.Tell(a, b, id(1, 1)) },
		func(a, b api.View) api.View { return view.Tell(b, a, id(4, 1)) },
		func(a, _ api.View) api.View { return view.Copy(a) },
		put(id(1, 2), member(1, 2, api.Down, 1)),
		put(id(1, 2), member(1, 2, api.Removed, 0)),
		put(id(4, 1), member(1, 2, api.Joining, 0)),
		put(id(4, 1), member(1, 1, api.Down, 0)),
		put(id(4, 1), member(13, 1, api.Down, 0)),
		put(id(4, 0), member(1, 1, api.Down, 0)),
		put(id(4, 1), member(1, 1, 8, 0)),
		row(id(1, 2), id(2, 1)),
		row(id(1, 2), id(3, 5), id(4, 1)),
		row(id(1, 2)),
		row(id(9, 1)),
		row(id(1, 1), id(3, 5)),
		row(id(1, 2), id(13, 1)),
		row(id(1, 0)),
	}
}

// viewsInMemory are views for these tests: valid ones, at their limits, too, and others.
func viewsInMemory() []api.View {
	at, late := some(), some()
	at.Clock = ticks(tick(1, 2, most), tick(4, 1, most))
	late.Rows[0].Version = most
	return append(append(drawn(31)[:30], anyViews(32)...), some(), full(64), at, late)
}

// Arguments stay as they are, their spare room included, also where both views are one.
func TestArgumentsAreLeft(t *testing.T) {
	all := viewsInMemory()
	for k, of := range operations() {
		for i, a := range all {
			for _, b := range []api.View{{}, all[(i+k)%len(all)]} {
				x, y := spared(a), spared(b)
				of(x, y)
				of(x, x)
				view.May(x)
				view.Same(x, y)
				view.Core(x, x)
				view.Covers(x, y)
				view.Covers(y, x)
				if !untouched(x, a) || !untouched(y, b) {
					t.Fatalf("operation %d: %v became %v, or %v became %v", k, a, x, b, y)
				}
			}
		}
	}
}

// Those who are not reached stay as they are, and are not kept.
func TestRowLeavesItsList(t *testing.T) {
	for _, v := range []api.View{{}, some()} {
		for _, of := range [][]api.ID{ids(id(7, 1), id(8, 1)), ids(id(8, 1), id(7, 1), id(2, 1), id(8, 1))} {
			not := roomy(of, markID)
			got, e := view.Row(v, id(2, 1), not)
			want := deep(got)
			if e != api.OK || !slices.Equal(not, of) || not[:len(of)+1][len(of)] != markID {
				t.Fatalf("Row of %v: %v became %v", v, of, not)
			}
			overwrite(not, markID)
			if !equal(got, want) {
				t.Errorf("Row of %v keeps %v", v, of)
			}
		}
	}
}

// Results are in memory of their own: neither an argument, nor another result, nor another list of it changes with one.
func TestResultsAreNew(t *testing.T) {
	all := viewsInMemory()
	for k, of := range operations() {
		for i, a := range all {
			for _, b := range []api.View{{}, a, all[(i+1)%len(all)]} {
				x, y := spared(a), spared(b)
				got, again := of(x, y), of(x, y)
				want := deep(got)
				fill(t, got)
				if !untouched(x, a) || !untouched(y, b) || !equal(again, want) {
					t.Fatalf("operation %d of %v and %v shares memory with its result", k, a, b)
				}
				one := of(y, y)
				first := deep(one)
				fill(t, y)
				fill(t, x)
				of(full(30), full(40))
				if !equal(again, want) || !equal(one, first) {
					t.Fatalf("operation %d of %v and %v: its result changes later", k, a, b)
				}
			}
		}
	}
}

// The same is answered however often, and in whatever order, it is asked: nothing is kept.
func TestNothingIsKept(t *testing.T) {
	all := viewsInMemory()
	for k, of := range operations() {
		for i, a := range all {
			b := all[(i+k)%len(all)]
			first, may, covers := of(a, b), view.May(a), view.Covers(a, b)
			of(b, a)
			if !equal(of(a, b), first) || view.May(a) != may || view.Covers(a, b) != covers {
				t.Fatalf("operation %d of %v and %v: other answers later", k, a, b)
			}
		}
	}
}

// P8.1: Copy answers the same: a list of nothing is one of nothing still, and one that is absent is absent.
func TestCopy(t *testing.T) {
	for _, v := range append(viewsInMemory(), api.View{}) {
		got := view.Copy(v)
		if !equal(got, v) || mayOf(v) && !view.Same(got, v) {
			t.Fatalf("Copy(%v): %v", v, got)
		}
	}
	got := view.Copy(api.View{Members: []api.Member{}, Floors: []api.ID{}, Rows: []api.Row{{Of: id(1, 1), Not: []api.ID{}}, {}}, Clock: []api.Tick{}, Seen: []api.ID{}})
	if got.Members == nil || got.Floors == nil || got.Rows[0].Not == nil || got.Rows[1].Not != nil || got.Clock == nil || got.Seen == nil {
		t.Errorf("Copy of lists of nothing: %v", got)
	}
	got = view.Copy(api.View{})
	if got.Members != nil || got.Floors != nil || got.Rows != nil || got.Clock != nil || got.Seen != nil {
		t.Errorf("Copy of nothing: %v", got)
	}
}
