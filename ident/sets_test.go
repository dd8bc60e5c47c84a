package ident_test

import (
	"slices"
	"testing"

	"covey/api"
	"covey/ident"
)

func TestExamples(t *testing.T) {
	for _, c := range []struct {
		name      string
		got, want []api.ID
	}{
		{"Put of 2.1 into 1.1, 3.5", ident.Put([]api.ID{{Addr: 1, Inc: 1}, {Addr: 3, Inc: 5}}, api.ID{Addr: 2, Inc: 1}), []api.ID{{Addr: 1, Inc: 1}, {Addr: 2, Inc: 1}, {Addr: 3, Inc: 5}}},
		{"Del of 1.1 from 1.1, 1.2", ident.Del([]api.ID{{Addr: 1, Inc: 1}, {Addr: 1, Inc: 2}}, api.ID{Addr: 1, Inc: 1}), []api.ID{{Addr: 1, Inc: 2}}},
		{"Join of 2.1, 1.1 and 2.1", ident.Join([]api.ID{{Addr: 2, Inc: 1}, {Addr: 1, Inc: 1}}, []api.ID{{Addr: 2, Inc: 1}}), []api.ID{{Addr: 1, Inc: 1}, {Addr: 2, Inc: 1}}},
		{"Without of 1.1, 1.2 and 1.2", ident.Without([]api.ID{{Addr: 1, Inc: 1}, {Addr: 1, Inc: 2}}, []api.ID{{Addr: 1, Inc: 2}}), []api.ID{{Addr: 1, Inc: 1}}},
	} {
		if !slices.Equal(c.got, c.want) {
			t.Errorf("%s: %v, not %v", c.name, c.got, c.want)
		}
	}
	if ident.May(api.ID{Addr: 13, Inc: 1}) || ident.May(api.ID{Addr: 1, Inc: 0}) {
		t.Error("May of 13.1, or of 1.0: true")
	}
}

// P3.2: no IDs, in either list or in both, are the set of nothing.
func TestNoIDs(t *testing.T) {
	one := []api.ID{{Addr: 4, Inc: 2}}
	for _, none := range [][]api.ID{nil, {}, one[:0]} {
		checkSets(t, none, none)
		checkSets(t, none, one)
		checkSets(t, one, none)
		if ident.Has(none, api.ID{}) || ident.Has(none, one[0]) {
			t.Errorf("Has of no IDs: true")
		}
		if !ident.Same(none, nil) || !ident.Same([]api.ID{}, none) || ident.Same(none, one) || ident.Same(one, none) {
			t.Errorf("Same of no IDs")
		}
	}
}

// P3.2: all short lists against each other: in every order, with IDs that stand twice, and thrice.
func TestShortLists(t *testing.T) {
	lists := shortLists(fewIDs, 3)
	for _, l := range lists {
		for _, m := range lists {
			checkSets(t, l, m)
		}
	}
}

// P3.2: Set, Has, Put and Del of all lists of up to five of three IDs, where one stands twice far apart.
func TestListsWithIDsTwice(t *testing.T) {
	for _, l := range shortLists(fewIDs[:3], 5) {
		for _, id := range fewIDs {
			checkSets(t, l, []api.ID{id})
		}
	}
}

// P3.2: invalid IDs are in sets like others: any numbers, in any order.
func TestListsOfAnyIDs(t *testing.T) {
	ids := anyIDs()
	for _, a := range ids {
		for _, b := range ids {
			checkSets(t, []api.ID{a, b}, []api.ID{b})
			checkSets(t, []api.ID{a}, []api.ID{b, a})
		}
	}
	checkSets(t, ids, nil)
	d := draw(1)
	for n := range 120 {
		checkSets(t, d.list(n, ids), d.list(d.below(120), ids))
	}
}

// P3.2: lists of every length up to more than MaxList, rising, falling, and drawn with few and with many that stand twice.
func TestListsOfEveryLength(t *testing.T) {
	d := draw(2)
	for n := range 140 {
		up := rise(n)
		down := slices.Clone(up)
		slices.Reverse(down)
		for _, l := range [][]api.ID{up, down, slices.Concat(up, up), slices.Concat(down, up), d.list(n, rise(9)), d.list(n, rise(1000))} {
			checkSets(t, l, d.list(d.below(n+1), rise(9)))
			checkSets(t, d.list(d.below(n+1), rise(1000)), l)
			checkSets(t, l, up)
		}
	}
}

// P3.2: long lists, the work for which must not grow with the square of their length.
func TestLongLists(t *testing.T) {
	const n = 1 << 18
	up := rise(n)
	down := slices.Clone(up)
	slices.Reverse(down)
	d := draw(3)
	drawn := d.list(n, up)
	for _, c := range []struct {
		name      string
		got, want []api.ID
	}{
		{"Set of a falling list", ident.Set(down), up},
		{"Set of a drawn list", ident.Set(drawn), setOf(all, drawn)},
		{"Set of few IDs many times", ident.Set(slices.Repeat(fewIDs, n/4)), fewIDs},
		{"Put", ident.Put(down[1:], down[0]), up},
		{"Del", ident.Del(down, down[0]), up[:n-1]},
		{"Join", ident.Join(down, drawn), up},
		{"Both", ident.Both(down, drawn), setOf(all, drawn)},
		{"Without", ident.Without(down, up[n/2:]), up[:n/2]},
	} {
		if !slices.Equal(c.got, c.want) {
			t.Errorf("%s: %d IDs, not %d, or other ones", c.name, len(c.got), len(c.want))
		}
	}
	if !ident.Same(down, up) || ident.Same(down[1:], up) {
		t.Error("Same")
	}
}

// P3.2: Same asks for all of both sets: one more, one less, and another one of the same number are told.
func TestSame(t *testing.T) {
	for n := 1; n < 70; n++ {
		l := rise(n)
		turned := slices.Concat(l, l)
		slices.Reverse(turned)
		if !ident.Same(l, turned) || !ident.Same(turned, l) {
			t.Errorf("Same of %v and its reverse, twice: false", l)
		}
		for i := range l {
			less, other := slices.Delete(slices.Clone(l), i, i+1), slices.Clone(l)
			other[i].Inc++
			for _, m := range [][]api.ID{less, other} {
				if ident.Same(l, m) || ident.Same(m, l) {
					t.Errorf("Same of %v and %v: true", l, m)
				}
			}
		}
	}
}

// P3.2: Has finds an ID wherever it stands, in a list that need not rise, and no other one that has one of its numbers.
func TestHas(t *testing.T) {
	for n := 1; n < 70; n++ {
		l := rise(n)
		slices.Reverse(l)
		for _, id := range l {
			if !ident.Has(l, id) {
				t.Errorf("Has(%v, %v): false", l, id)
			}
			for _, other := range []api.ID{{Addr: id.Addr, Inc: id.Inc + 1}, {Addr: id.Addr + 20, Inc: id.Inc}, {Addr: id.Inc, Inc: -id.Addr}, {}} {
				if ident.Has(l, other) {
					t.Errorf("Has(%v, %v): true", l, other)
				}
			}
		}
	}
}

// What is handed in stays as it is, its spare room included, also where both lists are one.
func TestListsAreLeft(t *testing.T) {
	d := draw(4)
	for n := range 40 {
		whole := d.list(n+8, fewIDs)
		if n%2 == 0 {
			whole = rise(n + 8)
		}
		other := d.list(12, fewIDs)
		l, m := slices.Clone(whole), slices.Clone(other)
		checkSets(t, l[:n], m[:5])
		checkSets(t, m[:5], l[:n])
		checkSets(t, l[:n], l[:n])
		checkSets(t, l[:n], l[n/2:])
		ident.Rising(l[:n])
		if !slices.Equal(l, whole) || !slices.Equal(m, other) {
			t.Fatalf("%v became %v, or %v became %v", whole, l, other, m)
		}
	}
}

// Each result is in memory of its own: neither an argument nor another result changes with it.
func TestResultsAreNew(t *testing.T) {
	mark := api.ID{Addr: -7, Inc: -7}
	lists := append(shortLists(fewIDs[:3], 3), rise(20), rise(65))
	for _, o := range operations() {
		for _, whole := range lists {
			for _, other := range [][]api.ID{nil, fewIDs, whole} {
				l, m := slices.Clone(whole), slices.Clone(other)
				want := o.want(l, m)
				got, again := o.of(l, m), o.of(l, m)
				fill(got, mark)
				if !slices.Equal(l, whole) || !slices.Equal(m, other) || !slices.Equal(again, want) {
					t.Fatalf("%s of %v and %v shares memory with its result", o.name, whole, other)
				}
				fill(l, mark)
				fill(m, mark)
				o.of(rise(30), rise(40))
				if !slices.Equal(again, want) {
					t.Fatalf("%s of %v and %v: its result changes later", o.name, whole, other)
				}
			}
		}
	}
}

// fill overwrites a list, and the room behind it.
func fill(l []api.ID, id api.ID) {
	for i := range l[:cap(l)] {
		l[:cap(l)][i] = id
	}
}
