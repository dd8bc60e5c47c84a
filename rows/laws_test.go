package rows_test

import (
	"slices"
	"testing"

	"covey/api"
	"covey/rows"
)

// lawLists are the valid lists of which the laws are asked: all short ones, and some that are drawn.
func lawLists() [][]api.Row {
	lists := append(validOf(fewIDs()[:2], 2), validOf(fewIDs()[1:3], 2)...)
	d := draw(4)
	for range 25 {
		lists = append(lists, d.valid(fewIDs(), 2), d.valid(ownersOf(rise(9)), 3))
	}
	return append(lists, rise(30))
}

func checkSame(t *testing.T, law string, got, want []api.Row, lists ...[]api.Row) {
	t.Helper()
	if !equal(got, want) || !rows.Same(got, want) {
		t.Fatalf("%s of %v: %v, and %v", law, lists, got, want)
	}
}

// P6.3: valid rows joined either way, and any number of times, give the same.
func TestJoinOfTwo(t *testing.T) {
	for _, a := range lawLists() {
		checkSame(t, "Join with itself", rows.Join(a, a), a, a)
		checkSame(t, "Join with no rows", rows.Join(a, nil), a, a)
		for _, b := range lawLists() {
			join := rows.Join(a, b)
			checkSame(t, "Join either way", join, rows.Join(b, a), a, b)
			checkSame(t, "Join again", rows.Join(join, a), join, a, b)
			checkSame(t, "Join again", rows.Join(b, join), join, a, b)
		}
	}
}

// P6.3: valid rows joined in any order give the same.
func TestJoinOfThree(t *testing.T) {
	lists := lawLists()
	lists = append(validOf(fewIDs()[:2], 1), lists[len(lists)-40:]...)
	for _, a := range lists {
		for _, b := range lists {
			join := rows.Join(a, b)
			for _, c := range lists {
				checkSame(t, "Join, associated", rows.Join(join, c), rows.Join(a, rows.Join(b, c)), a, b, c)
			}
		}
	}
}

// P6.3: many valid rows, joined in drawn orders, some of them several times, give the same.
func TestJoinOfMany(t *testing.T) {
	d := draw(5)
	for range 60 {
		var lists [][]api.Row
		var want []api.Row
		for range 6 {
			lists = append(lists, d.valid(ownersOf(rise(12)), 4))
			want = rows.Join(want, lists[len(lists)-1])
		}
		lists = append(lists, lists[d.below(6)], lists[d.below(6)], lists[d.below(6)])
		for range 20 {
			var got []api.Row
			d.shuffle(lists)
			for _, l := range lists {
				got = rows.Join(got, l)
			}
			checkSame(t, "Join in any order", got, want, lists...)
		}
	}
}

// P6.3: the Join of valid rows is valid, if there are not too many, and has a row for each ID for which either has one.
func TestJoinIsValid(t *testing.T) {
	lists := append(lawLists(), rise(64), rise(63))
	tooMany := 0
	for _, a := range lists {
		for _, b := range lists {
			join := rows.Join(a, b)
			if !slices.Equal(ownersOf(join), ownersOf(a, b)) || len(join) != len(ownersOf(a, b)) {
				t.Fatalf("Join(%v, %v): %v", a, b, join)
			}
			if got := rows.May(join); got != (len(join) <= 64) {
				t.Fatalf("May of the Join of %v and %v: %t", a, b, got)
			}
			if len(join) > 64 {
				tooMany++
			}
		}
	}
	if tooMany == 0 {
		t.Error("no Join had too many rows")
	}
}

// P6.4: what was set is in the joined rows, as long as there is no greater version of that row.
func TestTheNewestCounts(t *testing.T) {
	var found [3]int
	for _, l := range lawLists() {
		for _, of := range fewIDs() {
			set, e := rows.Set(l, of, []api.ID{id(3, 5), id(2, 2)})
			if e != api.OK {
				t.Fatalf("Set: %v", e)
			}
			mine, _ := rows.Get(set, of)
			for _, other := range append(lawLists(), []api.Row{row(of, mine.Version, id(9, 9))}, []api.Row{row(of, mine.Version+1, id(9, 9))}) {
				theirs, is := rows.Get(other, of)
				joined, _ := rows.Get(rows.Join(set, other), of)
				want := mine
				switch {
				case is && theirs.Version > mine.Version:
					want = theirs
					found[0]++
				case is && theirs.Version == mine.Version:
					want.Not = setOf(mine.Not, theirs.Not)
					found[1]++
				default:
					found[2]++
				}
				if !equalRow(joined, want) {
					t.Fatalf("set: %v, other: %v: joined %v, not %v", set, other, joined, want)
				}
			}
		}
	}
	if slices.Contains(found[:], 0) {
		t.Errorf("greater versions, the same, and lesser ones or none: %v", found)
	}
}

// P6.5: removing those that are Removed, then joining, and removing them again gives the same as joining first.
func TestRemovalAndJoin(t *testing.T) {
	d := draw(6)
	for _, a := range lawLists() {
		for _, b := range lawLists() {
			for _, floors := range [][]api.ID{{id(1, 1)}, {id(1, 2), id(2, 1)}, d.ids(3, fewIDs()), d.ids(2, ownersOf(a, b, rise(3)))} {
				want := rows.Gone(rows.Join(a, b), floors)
				goneA, goneB := rows.Gone(a, floors), rows.Gone(b, floors)
				checkSame(t, "removal of both", rows.Gone(rows.Join(goneA, goneB), floors), want, a, b)
				checkSame(t, "removal of one", rows.Gone(rows.Join(goneA, b), floors), want, a, b)
				checkSame(t, "removal again", rows.Gone(want, floors), want, a, b)
				if !rows.May(want) || !rows.May(goneA) {
					t.Fatalf("Gone of %v and %v by %v is not valid", a, b, floors)
				}
			}
		}
	}
}

// P6.6: what was set is returned by Get; other rows stay; setting the same again changes nothing; the result is valid.
func TestSetAndGet(t *testing.T) {
	for _, l := range lawLists() {
		for _, of := range fewIDs() {
			for _, not := range append(subsets(fewIDs()), []api.ID{id(9, 9), id(1, 1), id(9, 9)}) {
				want := slices.DeleteFunc(setOf(not), func(x api.ID) bool { return x == of })
				old, was := rows.Get(l, of)
				set, e := rows.Set(l, of, not)
				got, is := rows.Get(set, of)
				if e != api.OK || !rows.May(set) || is != (was || len(want) > 0) || !slices.Equal(got.Not, want) {
					t.Fatalf("Set(%v, %v, %v): %v, %v", l, of, not, set, e)
				}
				if changed := !sameSet(old.Not, want); changed != (got.Version == old.Version+1) || !changed && got.Version != old.Version {
					t.Fatalf("Set(%v, %v, %v): version %d", l, of, not, got.Version)
				}
				if !slices.Equal(ownersOf(set, []api.Row{row(of, 1)}), ownersOf(l, []api.Row{row(of, 1)})) {
					t.Fatalf("Set(%v, %v, %v): %v", l, of, not, set)
				}
				for _, r := range l {
					if kept, is := rows.Get(set, r.Of); r.Of != of && (!is || !equalRow(kept, r)) {
						t.Fatalf("Set(%v, %v, %v): of %v became %v", l, of, not, r, kept)
					}
				}
				again, e := rows.Set(set, of, not)
				if e != api.OK {
					t.Fatalf("Set again: %v", e)
				}
				checkSame(t, "Set again", again, set, l)
			}
		}
	}
}

// P6.6: set again and again, and joined with what was before: no version ever decreases, and each one is how often its row changed.
func TestVersionsNeverDecrease(t *testing.T) {
	d := draw(7)
	ids := ownersOf(rise(20))
	var l, early []api.Row
	changes := map[api.ID]int{}
	for n := range 3000 {
		of, not := ids[d.below(len(ids))], d.ids(d.below(3), ids)
		before, _ := rows.Get(l, of)
		set, e := rows.Set(l, of, not)
		if e != api.OK {
			t.Fatalf("Set(%v, %v, %v): %v", l, of, not, e)
		}
		if after, _ := rows.Get(set, of); !sameSet(before.Not, after.Not) {
			changes[of]++
		}
		if n%50 == 0 {
			early = l
		}
		checkSame(t, "Join with what was before", rows.Join(early, set), set, early)
		for _, r := range l {
			if now, is := rows.Get(set, r.Of); !is || now.Version < r.Version || now.Version != changes[r.Of] {
				t.Fatalf("%v became %v, after %d changes", r, now, changes[r.Of])
			}
		}
		l = set
	}
	if len(l) != len(ids) || !rows.May(l) {
		t.Errorf("%v", l)
	}
}
