package rows_test

import (
	"slices"
	"testing"

	"covey/api"
	"covey/rows"
)

// What is handed in stays as it is, its spare room included, also where both lists are one.
func TestListsAreLeft(t *testing.T) {
	d := draw(8)
	for n := range 40 {
		whole := spared(d.rows(n+8, fewIDs(), []int{0, 1, 2, 1 << 40}, 4))
		if n%2 == 0 {
			whole = spared(rise(n + 8))
		}
		other, ids := spared(d.rows(12, fewIDs(), []int{1, 2}, 4)), d.ids(12, fewIDs())
		a, b, some := spared(whole), spared(other), slices.Clone(ids)
		for _, of := range []api.ID{id(1, 1), id(2, 1), a[0].Of, {}} {
			checkOne(t, a[:n], of, some[:n%12])
			checkOne(t, b[:5], of, some[:4])
		}
		checkTwo(t, a[:n], b[:5])
		checkTwo(t, b[:5], a[:n])
		checkTwo(t, a[:n], a[:n])
		checkTwo(t, a[:n], a[n/2:])
		if !equalWhole(a, whole) || !equalWhole(b, other) || !slices.Equal(some, ids) {
			t.Fatalf("%v became %v, or %v became %v, or %v became %v", whole, a, other, b, ids, some)
		}
	}
}

// spared returns rows in new memory, with spare room behind each list in them.
func spared(l []api.Row) []api.Row {
	out := deep(l)
	for i, r := range out {
		out[i].Not = append(r.Not, id(77, 7), id(76, 7), id(75, 7))[:len(r.Not)]
	}
	return out
}

// equalWhole reports whether rows are the same, the spare room of their lists included.
func equalWhole(a, b []api.Row) bool {
	return slices.EqualFunc(a, b, func(x, y api.Row) bool {
		return equalRow(x, y) && slices.Equal(x.Not[:len(x.Not)+3], y.Not[:len(y.Not)+3])
	})
}

// Each result is in memory of its own: neither an argument, nor another result, nor another list in it changes with it.
func TestResultsAreNew(t *testing.T) {
	lists := append(validOf(fewIDs()[:3], 1), rise(20), fall(rise(64)), rise(65), []api.Row{row(id(2, 1), 1<<40, id(1, 1)), row(id(1, 1), 1)})
	operations := []func(a, b []api.Row) []api.Row{
		rows.Join,
		func(a, b []api.Row) []api.Row { return rows.Join(b, a) },
		func(a, b []api.Row) []api.Row { return rows.Gone(a, ownersOf(b[:len(b)/2])) },
		func(a, _ []api.Row) []api.Row { l, _ := rows.Set(a, id(2, 1), []api.ID{id(3, 5)}); return l },
		func(a, _ []api.Row) []api.Row { l, _ := rows.Set(a, id(2, 2), []api.ID{id(3, 5)}); return l },
		func(a, _ []api.Row) []api.Row { l, _ := rows.Set(a, id(2, 2), nil); return l },
		func(a, _ []api.Row) []api.Row { l, _ := rows.Set(a, id(13, 2), nil); return l },
		func(a, _ []api.Row) []api.Row { r, _ := rows.Get(a, id(2, 1)); return []api.Row{r} },
		func(a, b []api.Row) []api.Row { return []api.Row{{Not: rows.Not(a, ownersOf(b))}} },
		func(a, _ []api.Row) []api.Row { return []api.Row{{Not: rows.Not(a, []api.ID{id(2, 1)})}} },
	}
	for k, of := range operations {
		for _, whole := range lists {
			for _, other := range [][]api.Row{nil, rise(7), whole} {
				a, b := spared(whole), spared(other)
				got, again := of(a, b), of(a, b)
				want := deep(got)
				fill(t, got)
				if !equal(a, whole) || !equal(b, other) || !equal(again, want) {
					t.Fatalf("operation %d of %v and %v shares memory with its result", k, whole, other)
				}
				fill(t, a)
				fill(t, b)
				of(rise(30), rise(40))
				if !equal(again, want) {
					t.Fatalf("operation %d of %v and %v: its result changes later", k, whole, other)
				}
			}
		}
	}
}

// Set keeps neither the list that it was handed, nor the room behind it.
func TestSetKeepsNoList(t *testing.T) {
	for _, l := range [][]api.Row{nil, rise(3), {row(id(2, 1), 1, id(5, 5))}} {
		not := []api.ID{id(3, 1), id(4, 1), id(5, 1)}
		got, _ := rows.Set(l, id(2, 1), not[:2])
		not[0], not[1], not[2] = id(6, 6), id(6, 6), id(6, 6)
		if r, _ := rows.Get(got, id(2, 1)); !slices.Equal(r.Not, []api.ID{id(3, 1), id(4, 1)}) {
			t.Errorf("Set: its list became %v", r.Not)
		}
	}
}

// fill overwrites rows, each list in them, and the room behind each: no list may change another one.
func fill(t *testing.T, l []api.Row) {
	t.Helper()
	for i, r := range l {
		others := deep(l)
		for k := range r.Not[:cap(r.Not)] {
			r.Not[:cap(r.Not)][k] = id(-7, -7)
		}
		for k := range l {
			if k != i && !slices.Equal(l[k].Not, others[k].Not) {
				t.Fatalf("the lists of rows %d and %d share memory", i, k)
			}
		}
	}
	for i := range l[:cap(l)] {
		l[:cap(l)][i] = row(id(-7, -7), 77)
	}
}
