package ident_test

import (
	"slices"
	"testing"

	"covey/api"
	"covey/ident"
)

// lawLists are the lists of which the laws are asked: all short ones, and some of invalid IDs.
func lawLists(longest int) [][]api.ID {
	lists := shortLists(fewIDs[:3], longest)
	d := draw(5)
	for n := range 12 {
		lists = append(lists, d.list(n, anyIDs()[:14]), d.list(n, fewIDs))
	}
	return lists
}

func checkEqual(t *testing.T, law string, got, want []api.ID, lists ...[]api.ID) {
	t.Helper()
	if !slices.Equal(got, want) {
		t.Fatalf("%s of %v: %v, and %v", law, lists, got, want)
	}
}

// P3.4: results are sets.
func TestResultsAreSets(t *testing.T) {
	for _, l := range lawLists(3) {
		for _, m := range lawLists(3) {
			for _, o := range operations() {
				set := o.of(l, m)
				if !ident.Rising(set) || !slices.IsSortedFunc(set, order) || len(slices.Compact(slices.Clone(set))) != len(set) {
					t.Fatalf("%s of %v and %v: %v is no set", o.name, l, m, set)
				}
				checkEqual(t, "Set of a set", ident.Set(set), set, l, m)
			}
		}
	}
}

// P3.4: an increasing list is its own set.
func TestRisingListsAreSets(t *testing.T) {
	for _, l := range lawLists(3) {
		if got := ident.Set(l); slices.Equal(got, l) != ident.Rising(l) {
			t.Errorf("Set of %v: %v", l, got)
		}
	}
	for n := range 140 {
		checkEqual(t, "Set", ident.Set(rise(n)), rise(n))
	}
	checkEqual(t, "Set", ident.Set(anyIDs()), anyIDs())
}

// P3.4: Same means that the sets, as lists, are the same.
func TestSameSets(t *testing.T) {
	for _, l := range lawLists(3) {
		for _, m := range lawLists(3) {
			if got := ident.Same(l, m); got != slices.Equal(ident.Set(l), ident.Set(m)) || got != ident.Same(m, l) {
				t.Fatalf("Same of %v and %v: %t", l, m, got)
			}
		}
		if !ident.Same(l, l) || !ident.Same(l, ident.Set(l)) {
			t.Errorf("Same of %v and itself, or its set: false", l)
		}
	}
}

// P3.5: commutative and idempotent.
func TestLawsOfTwo(t *testing.T) {
	for _, l := range lawLists(3) {
		checkEqual(t, "Join with itself", ident.Join(l, l), ident.Set(l), l)
		checkEqual(t, "Both with itself", ident.Both(l, l), ident.Set(l), l)
		checkEqual(t, "Without itself", ident.Without(l, l), nil, l)
		for _, m := range lawLists(3) {
			checkEqual(t, "Join either way", ident.Join(l, m), ident.Join(m, l), l, m)
			checkEqual(t, "Both either way", ident.Both(l, m), ident.Both(m, l), l, m)
		}
	}
}

// P3.5: associative, distributive, and Without a Join.
func TestLawsOfThree(t *testing.T) {
	lists := lawLists(2)
	for _, k := range lists {
		for _, l := range lists {
			for _, m := range lists {
				checkEqual(t, "Join, associated", ident.Join(ident.Join(k, l), m), ident.Join(k, ident.Join(l, m)), k, l, m)
				checkEqual(t, "Both, associated", ident.Both(ident.Both(k, l), m), ident.Both(k, ident.Both(l, m)), k, l, m)
				checkEqual(t, "Join over Both", ident.Join(k, ident.Both(l, m)), ident.Both(ident.Join(k, l), ident.Join(k, m)), k, l, m)
				checkEqual(t, "Without a Join", ident.Without(k, ident.Join(l, m)), ident.Without(ident.Without(k, l), m), k, l, m)
			}
		}
	}
}

// P3.6: which IDs are in the results, by what Has says of the lists.
func TestMembership(t *testing.T) {
	asked := append(anyIDs()[:20], fewIDs...)
	for _, l := range lawLists(3) {
		for _, m := range lawLists(3) {
			join, both, without := ident.Join(l, m), ident.Both(l, m), ident.Without(l, m)
			for _, id := range asked {
				inL, inM := ident.Has(l, id), ident.Has(m, id)
				if inL != slices.Contains(l, id) {
					t.Fatalf("Has(%v, %v): %t", l, id, inL)
				}
				if ident.Has(join, id) != (inL || inM) || ident.Has(both, id) != (inL && inM) || ident.Has(without, id) != (inL && !inM) {
					t.Fatalf("%v in %v: %t, in %v: %t; Join %v, Both %v, Without %v", id, l, inL, m, inM, join, both, without)
				}
			}
		}
	}
}

// P3.6: in Put and Del are the IDs that were there before, except for the given one.
func TestMembershipOfPutAndDel(t *testing.T) {
	asked := append(anyIDs()[:20], fewIDs...)
	for _, l := range lawLists(3) {
		for _, given := range asked {
			put, del := ident.Put(l, given), ident.Del(l, given)
			if !ident.Has(put, given) || ident.Has(del, given) {
				t.Fatalf("%v and %v: Put %v, Del %v", l, given, put, del)
			}
			for _, id := range asked {
				if id != given && (ident.Has(put, id) != ident.Has(l, id) || ident.Has(del, id) != ident.Has(l, id)) {
					t.Fatalf("%v and %v: Put %v, Del %v", l, given, put, del)
				}
			}
		}
	}
}
