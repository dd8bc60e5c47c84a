package rows_test

import (
	"slices"
	"testing"

	"covey/api"
	"covey/rows"
)

// checkJoin calls Join both ways.
func checkJoin(t *testing.T, a, b, want []api.Row) {
	t.Helper()
	for _, got := range [][]api.Row{rows.Join(a, b), rows.Join(b, a)} {
		if !equal(got, want) {
			t.Errorf("Join(%v, %v): %v, not %v", a, b, got, want)
		}
	}
}

func TestExamplesOfJoin(t *testing.T) {
	one, two := []api.Row{row(id(1, 1), 1, id(2, 1))}, []api.Row{row(id(1, 1), 2)}
	checkJoin(t, one, two, two)
	a, b := []api.Row{row(id(1, 1), 2, id(2, 1))}, []api.Row{row(id(1, 1), 2, id(3, 1))}
	checkJoin(t, a, b, []api.Row{row(id(1, 1), 2, id(2, 1), id(3, 1))})
}

// P6.2: rows of one list alone, of both, of either version, and of one version.
func TestJoin(t *testing.T) {
	x, y, z := id(1, 1), id(2, 1), id(3, 1)
	for _, c := range []struct{ a, b, join []api.Row }{
		{nil, nil, nil},
		{nil, []api.Row{row(x, 4, y)}, []api.Row{row(x, 4, y)}},
		{nil, []api.Row{row(x, 4), row(y, 1, x)}, []api.Row{row(x, 4), row(y, 1, x)}},
		{[]api.Row{row(x, 4, y)}, []api.Row{row(y, 1, x)}, []api.Row{row(x, 4, y), row(y, 1, x)}},
		{[]api.Row{row(x, 4, y)}, []api.Row{row(id(1, 2), 1, x)}, []api.Row{row(x, 4, y), row(id(1, 2), 1, x)}},
		{[]api.Row{row(x, 4, y)}, []api.Row{row(x, 4, y)}, []api.Row{row(x, 4, y)}},
		{[]api.Row{row(x, 4, y)}, []api.Row{row(x, 5, z)}, []api.Row{row(x, 5, z)}},
		{[]api.Row{row(x, 4, y, z)}, []api.Row{row(x, 5)}, []api.Row{row(x, 5)}},
		{[]api.Row{row(x, 4)}, []api.Row{row(x, 5, y, z)}, []api.Row{row(x, 5, y, z)}},
		{[]api.Row{row(x, 4, y)}, []api.Row{row(x, 4)}, []api.Row{row(x, 4, y)}},
		{[]api.Row{row(x, 4, y, z)}, []api.Row{row(x, 4, id(2, 2), z)}, []api.Row{row(x, 4, y, id(2, 2), z)}},
		{[]api.Row{row(x, 1)}, []api.Row{row(x, 1099511627776, y)}, []api.Row{row(x, 1099511627776, y)}},
		{[]api.Row{row(x, 2, y), row(y, 2, x), row(z, 2, x)}, []api.Row{row(x, 1, z), row(y, 3, z), row(z, 2, y)}, []api.Row{row(x, 2, y), row(y, 3, z), row(z, 2, x, y)}},
		{[]api.Row{row(x, 1), row(z, 1)}, []api.Row{row(y, 1), row(id(4, 1), 1)}, []api.Row{row(x, 1), row(y, 1), row(z, 1), row(id(4, 1), 1)}},
	} {
		checkJoin(t, c.a, c.b, c.join)
	}
}

// P6.2: lists that are not valid: the first row of each ID counts, whatever its version is, by increasing IDs; and of a row that counts alone all that is in it stays.
func TestJoinOfListsThatAreNotValid(t *testing.T) {
	x, y, z := id(1, 1), id(2, 1), id(3, 1)
	for _, c := range []struct{ a, b, join []api.Row }{
		{[]api.Row{row(y, 1), row(x, 1)}, nil, []api.Row{row(x, 1), row(y, 1)}},
		{[]api.Row{row(x, 1, y), row(x, 2, z)}, nil, []api.Row{row(x, 1, y)}},
		{[]api.Row{row(x, 2, z), row(x, 1, y)}, nil, []api.Row{row(x, 2, z)}},
		{[]api.Row{row(x, 1, y), row(x, 1, z)}, nil, []api.Row{row(x, 1, y)}},
		{[]api.Row{row(y, 1, z), row(x, 1, y), row(y, 9, x)}, []api.Row{row(y, 2)}, []api.Row{row(x, 1, y), row(y, 2)}},
		{[]api.Row{row(x, 1, y), row(x, 3, z)}, []api.Row{row(x, 2), row(x, 4)}, []api.Row{row(x, 2)}},
		{[]api.Row{row(x, 1, y), row(x, 2)}, []api.Row{row(x, 1, z), row(x, 2)}, []api.Row{row(x, 1, y, z)}},
		{[]api.Row{row(x, 2, z, y, z, x)}, []api.Row{row(x, 1, y)}, []api.Row{row(x, 2, z, y, z, x)}},
		{[]api.Row{row(x, 2, z, y, z)}, []api.Row{row(x, 2, y, x)}, []api.Row{row(x, 2, x, y, z)}},
		{[]api.Row{row(x, 0, y)}, []api.Row{row(x, -1, z)}, []api.Row{row(x, 0, y)}},
		{[]api.Row{row(x, 0, y)}, nil, []api.Row{row(x, 0, y)}},
		{[]api.Row{row(x, -4, y)}, nil, []api.Row{row(x, -4, y)}},
		{[]api.Row{{}}, []api.Row{row(id(13, -1), 1<<40+1, id(0, 0))}, []api.Row{{}, row(id(13, -1), 1<<40+1, id(0, 0))}},
		{[]api.Row{row(id(13, -1), 1)}, []api.Row{{}}, []api.Row{{}, row(id(13, -1), 1)}},
	} {
		checkJoin(t, c.a, c.b, c.join)
	}
}

// P6.1, P6.2: Join and Same of all short lists against each other: in every order, with IDs that stand twice, and that are in their own rows.
func TestShortLists(t *testing.T) {
	ids := fewIDs()[1:3]
	for _, lists := range [][][]api.Row{
		listsOf(rowsOf(ids, []int{1, 2}, [][]api.ID{nil, ids[:1], ids[1:]}), 2),
		listsOf(rowsOf(ids[:1], []int{0, 1}, listsOf(ids, 2)), 2),
		validOf(fewIDs()[:3], 1),
		validOf(fewIDs()[:2], 3),
	} {
		for _, a := range lists {
			for _, b := range lists {
				checkTwo(t, a, b)
			}
		}
	}
}

// P6.2: versions of any numbers: no difference of two of them may wrap round.
func TestJoinOfAnyNumbers(t *testing.T) {
	x, y, z := id(1, 1), id(2, 1), id(3, 1)
	for _, m := range anyNumbers() {
		for _, n := range anyNumbers() {
			checkTwo(t, []api.Row{row(x, m, y)}, []api.Row{row(x, n, z)})
			checkTwo(t, []api.Row{row(x, m, y), row(x, n, z)}, []api.Row{row(x, n, x)})
		}
	}
	for _, m := range anyIDs() {
		for _, n := range anyIDs() {
			checkTwo(t, []api.Row{row(m, 1, n), row(n, 2)}, []api.Row{row(n, 1, m)})
		}
	}
}

// P6.2: lists of every length up to more than MaxList: increasing, decreasing, and drawn with few and with many IDs that stand twice.
func TestListsOfEveryLength(t *testing.T) {
	d := draw(2)
	many := ownersOf(rise(100))
	for n := range 140 {
		up := rise(n)
		for _, a := range [][]api.Row{up, fall(up), slices.Concat(up, fall(up)), d.rows(n, fewIDs(), []int{1, 2}, 3), d.rows(n, many, []int{1, 2, 3}, 3), d.rows(n, anyIDs(), anyNumbers(), 3)} {
			checkTwo(t, a, up)
			checkTwo(t, up, a)
			checkTwo(t, a, d.rows(d.below(n+1), fewIDs(), []int{1, 2}, 2))
			checkTwo(t, d.rows(d.below(n+1), many, []int{1, 2, 3}, 4), a)
		}
	}
}

// P6.2: long lists, the work for which must not grow with the square of their length.
func TestLongLists(t *testing.T) {
	const n = 1 << 17
	up := rise(n)
	down := fall(up)
	owners := ownersOf(up)
	d := draw(3)
	drawn := d.rows(n, owners, []int{1, 2, 3}, 2)
	checkTwo(t, down, drawn)
	checkTwo(t, drawn, nil)
	checkTwo(t, slices.Repeat(rowsOf(fewIDs(), []int{2, 1}, [][]api.ID{owners[:3]}), n/8), up)
	if got := rows.Join(down, up); len(got) != n || !rows.Same(got, up) {
		t.Errorf("Join of a list and its reverse: %d rows, not %d, or other ones", len(got), n)
	}
	if rows.Same(up, down) || rows.May(up) {
		t.Error("Same, May")
	}
	if got := rows.Gone(drawn, down[0].Not); len(got) > n {
		t.Errorf("Gone: %d rows", len(got))
	}
	if got := rows.Gone(up, fallIDs(owners)); len(got) != 0 {
		t.Errorf("Gone of all: %d rows", len(got))
	}
	if got, want := rows.Not(down, fallIDs(owners)), setOf(notsOf(up)...); !slices.Equal(got, want) {
		t.Errorf("Not of all: %d IDs, not %d, or other ones", len(got), len(want))
	}
	if got, e := rows.Set(nil, id(1, 2), fallIDs(owners)); e != api.OK || !equal(got, []api.Row{row(id(1, 2), 1, owners...)}) {
		t.Errorf("Set of all: %v, %d rows", e, len(got))
	}
}

func fallIDs(l []api.ID) []api.ID {
	out := slices.Clone(l)
	slices.Reverse(out)
	return out
}

// notsOf returns the lists of those that are not reached.
func notsOf(l []api.Row) [][]api.ID {
	var out [][]api.ID
	for _, r := range l {
		out = append(out, r.Not)
	}
	return out
}
