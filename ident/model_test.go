package ident_test

import (
	"cmp"
	"math"
	"slices"
	"testing"

	"covey/api"
	"covey/ident"
)

// The chapter's terms in another way than the package has them: sets are the keys of a map, sorted by the library.

func order(a, b api.ID) int {
	return cmp.Or(cmp.Compare(a.Addr, b.Addr), cmp.Compare(a.Inc, b.Inc))
}

// setOf returns the set of those IDs of some lists that are wanted.
func setOf(wanted func(id api.ID) bool, lists ...[]api.ID) []api.ID {
	is := map[api.ID]bool{}
	for _, l := range lists {
		for _, id := range l {
			if wanted(id) {
				is[id] = true
			}
		}
	}
	set := make([]api.ID, 0, len(is))
	for id := range is {
		set = append(set, id)
	}
	slices.SortFunc(set, order)
	return set
}

// in tells, of a list, which IDs are in it.
func in(l []api.ID) func(id api.ID) bool {
	is := map[api.ID]bool{}
	for _, id := range l {
		is[id] = true
	}
	return func(id api.ID) bool { return is[id] }
}

func all(api.ID) bool { return true }

// operation is a function that returns a set, with the model's way beside it.
type operation struct {
	name     string
	of, want func(l, m []api.ID) []api.ID
}

// operations are all functions that return sets; Put and Del are given the first ID of the second list, if there is one.
func operations() []operation {
	return []operation{
		{"Set", func(l, m []api.ID) []api.ID { return ident.Set(l) }, func(l, m []api.ID) []api.ID { return setOf(all, l) }},
		{"Put", func(l, m []api.ID) []api.ID { return ident.Put(l, first(m)) }, func(l, m []api.ID) []api.ID { return setOf(all, l, []api.ID{first(m)}) }},
		{"Del", func(l, m []api.ID) []api.ID { return ident.Del(l, first(m)) }, func(l, m []api.ID) []api.ID {
			return setOf(func(id api.ID) bool { return id != first(m) }, l)
		}},
		{"Join", ident.Join, func(l, m []api.ID) []api.ID { return setOf(all, l, m) }},
		{"Both", ident.Both, func(l, m []api.ID) []api.ID { return setOf(in(m), l) }},
		{"Without", ident.Without, func(l, m []api.ID) []api.ID {
			inM := in(m)
			return setOf(func(id api.ID) bool { return !inM(id) }, l)
		}},
	}
}

func first(l []api.ID) api.ID {
	if len(l) == 0 {
		return api.ID{Addr: 1, Inc: 2}
	}
	return l[0]
}

// checkSets holds all functions about two lists against the model.
func checkSets(t *testing.T, l, m []api.ID) {
	t.Helper()
	for _, o := range operations() {
		if got, want := o.of(l, m), o.want(l, m); !slices.Equal(got, want) {
			t.Fatalf("%s of %v and %v: %v, not %v", o.name, l, m, got, want)
		}
	}
	if got, want := ident.Same(l, m), slices.Equal(setOf(all, l), setOf(all, m)); got != want {
		t.Fatalf("Same of %v and %v: %t", l, m, got)
	}
	if got, want := ident.Has(l, first(m)), in(l)(first(m)); got != want {
		t.Fatalf("Has of %v and %v: %t", l, first(m), got)
	}
}

// anyNumbers are the limits of addresses and incarnations, what is beside them, and the ends of all numbers.
func anyNumbers() []int {
	return []int{math.MinInt, math.MinInt + 1, -1, 0, 1, 2, api.MaxAddr, api.MaxAddr + 1, api.MaxInc, api.MaxInc + 1, math.MaxInt - 1, math.MaxInt}
}

// anyIDs are IDs, most of them invalid, of all pairs of these numbers.
func anyIDs() []api.ID {
	var ids []api.ID
	for _, addr := range anyNumbers() {
		for _, inc := range anyNumbers() {
			ids = append(ids, api.ID{Addr: addr, Inc: inc})
		}
	}
	return ids
}

// fewIDs are some that differ in one number alone, or in both, one of which rises while the other one falls.
var fewIDs = []api.ID{{Addr: 1, Inc: 1}, {Addr: 1, Inc: 2}, {Addr: 2, Inc: 1}, {Addr: 3, Inc: 5}}

// shortLists are all lists of some IDs up to a length, in every order, with each ID any number of times.
func shortLists(ids []api.ID, longest int) [][]api.ID {
	lists := [][]api.ID{nil}
	for from := 0; len(lists[from]) < longest; from++ {
		for _, id := range ids {
			lists = append(lists, append(slices.Clone(lists[from]), id))
		}
	}
	return lists
}

// draw returns the next one of a fixed sequence of numbers.
type draw uint64

func (d *draw) below(n int) int {
	*d = *d*6364136223846793005 + 1442695040888963407
	return int(uint64(*d)>>20) % n
}

// list draws a list of n of these IDs.
func (d *draw) list(n int, ids []api.ID) []api.ID {
	l := make([]api.ID, n)
	for i := range l {
		l[i] = ids[d.below(len(ids))]
	}
	return l
}

// rise returns n valid IDs in increasing order, several of one address among them.
func rise(n int) []api.ID {
	l := make([]api.ID, n)
	for i := range l {
		l[i] = api.ID{Addr: 1 + i*api.MaxAddr/n, Inc: 1 + 3*i}
	}
	return l
}
