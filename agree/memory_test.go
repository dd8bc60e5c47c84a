package agree_test

import (
	"slices"
	"testing"

	"covey/agree"
	"covey/api"
)

// What no list holds.
var (
	markID     = id(-7, -7)
	markMember = api.Member{ID: markID, Status: 77, No: -7}
	markTick   = api.Tick{Of: markID, N: -7}
)

// roomy returns a list with room for three more behind it, in which marks stand.
func roomy[T any](l []T, mark T) []T {
	return append(slices.Clone(l), mark, mark, mark)[:len(l)]
}

// marked reports whether the room behind a list is as it was.
func marked[T comparable](l []T, mark T) bool {
	return slices.Equal(l[len(l):len(l)+3], []T{mark, mark, mark})
}

// spared returns a view in new memory, with spare room behind all its lists.
func spared(v api.View) api.View {
	out := deep(v)
	for i, r := range out.Rows {
		out.Rows[i].Not = roomy(r.Not, markID)
	}
	return api.View{Members: roomy(out.Members, markMember), Floors: roomy(out.Floors, markID), Rows: roomy(out.Rows, row(markID, markID)), Clock: roomy(out.Clock, markTick), Seen: roomy(out.Seen, markID)}
}

// untouched reports whether a view with spare room is what it was, that room included.
func untouched(v, was api.View) bool {
	if !same(v, was) || !marked(v.Members, markMember) || !marked(v.Floors, markID) || !marked(v.Clock, markTick) || !marked(v.Seen, markID) {
		return false
	}
	for _, r := range v.Rows {
		if !marked(r.Not, markID) {
			return false
		}
	}
	return !slices.ContainsFunc(v.Rows[len(v.Rows):len(v.Rows)+3], func(r api.Row) bool {
		return r.Of != markID || r.Version != 1 || !slices.Equal(r.Not, ids(markID))
	})
}

// overwrite overwrites a list, and the room behind it.
func overwrite[T any](l []T, mark T) {
	for i := range l[:cap(l)] {
		l[:cap(l)][i] = mark
	}
}

// calls are all calls, each by itself.
func calls() []func(v api.View) {
	return []func(v api.View){
		func(v api.View) { agree.NotReached(v) },
		func(v api.View) { agree.Reached(v, a) },
		func(v api.View) { agree.Reached(v, id(13, 0)) },
		func(v api.View) { agree.All(v) },
		func(v api.View) { agree.Reaching(v) },
		func(v api.View) { agree.Leader(v) },
	}
}

// A view stays as it is, its spare room included.
func TestViewsAreLeft(t *testing.T) {
	all := views(21)
	for _, v := range all[:len(all):len(all)] {
		all = append(all, reversed(v), twice(v))
	}
	for _, was := range all {
		v := spared(was)
		for k, call := range calls() {
			if call(v); !untouched(v, was) {
				t.Fatalf("call %d: %v became %v", k, was, v)
			}
		}
	}
}

// What is not reached is in memory of its own: neither a view nor another result changes with it.
func TestResultsAreNew(t *testing.T) {
	some := 0
	for _, was := range views(22) {
		v := spared(was)
		first, again := agree.NotReached(v), agree.NotReached(v)
		want := slices.Clone(again)
		overwrite(first, markID)
		if !untouched(v, was) || !slices.Equal(again, want) {
			t.Fatalf("NotReached of %v shares memory with its result", was)
		}
		overwrite(v.Members, markMember)
		overwrite(v.Floors, markID)
		for _, r := range v.Rows {
			overwrite(r.Not, markID)
		}
		overwrite(v.Rows, row(markID, markID))
		overwrite(v.Seen, markID)
		agree.NotReached(was)
		if !slices.Equal(again, want) {
			t.Fatalf("NotReached of %v: its result changes later", was)
		}
		if len(want) > 0 {
			some++
		}
	}
	if some < 200 {
		t.Errorf("%d views alone with somebody who is not reached", some)
	}
}

// The same is answered however often, and in whatever order, it is asked: nothing is kept.
func TestNothingIsKept(t *testing.T) {
	all := views(23)
	for i, v := range all {
		was := got(v)
		got(all[(i+7)%len(all)])
		if now := got(v); !equal(now, was) {
			t.Fatalf("%v: %v, later %v", v, was, now)
		}
	}
}

// Long lists, in no order, with entries many times, come back.
func TestLongLists(t *testing.T) {
	const n = 50000
	d := draw(24)
	var v api.View
	var all []api.ID
	for k := range n {
		x := id(1+k%12, 1+k/12)
		all = append(all, x)
		v.Members = append(v.Members, api.Member{ID: x, Status: api.Up, No: k}, api.Member{ID: id(1+d.below(12), 1+d.below(n/12)), Status: api.Down})
	}
	for k := range n {
		v.Rows = append(v.Rows, row(all[d.below(n)], all[k], all[d.below(n)]))
	}
	v.Rows = append(v.Rows, row(all[7], all...), row(all[8], all...))
	slices.Reverse(all)
	v.Seen = all
	for _, call := range calls() {
		call(v)
	}
	slices.SortFunc(all, order)
	if not := agree.NotReached(v); !slices.Equal(not, all) {
		t.Errorf("%d of %d are not reached", len(not), n)
	}
}
