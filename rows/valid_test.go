package rows_test

import (
	"slices"
	"testing"

	"covey/api"
	"covey/rows"
)

// P6.1: rows that are valid: none, nobody in them, each limit, and all that increase.
func TestMay(t *testing.T) {
	for _, l := range [][]api.Row{
		nil,
		{},
		{row(id(1, 1), 1)},
		{{Of: id(1, 1), Version: 1, Not: []api.ID{}}},
		{row(id(12, 1048576), 1099511627776, id(12, 1048575))},
		{row(id(1, 1), 7, id(1, 2), id(2, 1), id(12, 1048576))},
		{row(id(5, 5), 7, id(1, 1), id(5, 4), id(5, 6), id(6, 1))},
		{row(id(1, 1), 5, id(2, 1)), row(id(1, 2), 5), row(id(2, 1), 4, id(1, 1), id(1, 2))},
		{row(id(1, 9), 9, id(2, 1)), row(id(2, 1), 1, id(2, 2)), row(id(11, 3), 4, id(1, 1)), row(id(12, 1), 2)},
	} {
		if !rows.May(l) {
			t.Errorf("May(%v): false", l)
		}
	}
	for n := range 65 {
		if l := rise(n); !rows.May(l) {
			t.Errorf("May of %d rows that increase: false", n)
		}
	}
	for n := range 140 {
		if l := []api.Row{row(id(1, 1), 1, ownersOf(rise(n + 1))[1:]...)}; !rows.May(l) {
			t.Errorf("May of a row with %d IDs in it: false", n)
		}
	}
}

// P6.1: rows that are not valid, for one reason each.
func TestMayNot(t *testing.T) {
	for _, l := range [][]api.Row{
		{{}},
		{row(id(0, 1), 1)},
		{row(id(-1, 1), 1)},
		{row(id(13, 1), 1)},
		{row(id(1, 0), 1)},
		{row(id(1, -1), 1)},
		{row(id(1, 1048577), 1)},
		{row(id(1, 1), 0)},
		{row(id(1, 1), -1)},
		{row(id(1, 1), 1099511627777)},
		{row(id(1, 1), 1, api.ID{})},
		{row(id(1, 1), 1, id(0, 1))},
		{row(id(1, 1), 1, id(13, 1))},
		{row(id(1, 1), 1, id(2, 0))},
		{row(id(1, 1), 1, id(2, 1048577))},
		{row(id(1, 1), 1, id(2, 1), id(13, 1))},
		{row(id(1, 1), 1, id(2, 1), id(2, 1))},
		{row(id(1, 1), 1, id(2, 2), id(2, 1))},
		{row(id(1, 1), 1, id(3, 1), id(2, 2))},
		{row(id(1, 1), 1, id(2, 1), id(3, 1), id(2, 1))},
		{row(id(1, 1), 1, id(1, 1))},
		{row(id(2, 1), 1, id(1, 1), id(2, 1), id(3, 1))},
		{row(id(1, 1), 1), row(id(1, 1), 1)},
		{row(id(1, 1), 1), row(id(1, 1), 2, id(2, 1))},
		{row(id(2, 1), 1), row(id(1, 2), 1)},
		{row(id(1, 2), 1), row(id(1, 1), 1)},
		{row(id(1, 1), 1), row(id(2, 1), 1), row(id(1, 1), 1)},
		{row(id(1, 1), 1), row(id(2, 1), 0)},
		{row(id(1, 1), 1), row(id(2, 1), 1, id(2, 1))},
	} {
		if rows.May(l) {
			t.Errorf("May(%v): true", l)
		}
	}
	for n := 65; n < 140; n++ {
		if rows.May(rise(n)) {
			t.Errorf("May of %d rows: true", n)
		}
	}
}

// P6.1: rows of every length in which one is wrong, wherever it stands. (The first one has none before it, so that not all ways make it wrong.)
func TestMayOfOneWrongRow(t *testing.T) {
	wrong := []func(x *api.Row, before api.ID){
		func(x *api.Row, _ api.ID) { x.Version = 0 },
		func(x *api.Row, _ api.ID) { x.Version = 1<<40 + 1 },
		func(x *api.Row, _ api.ID) { x.Of.Addr = 13 },
		func(x *api.Row, _ api.ID) { x.Of.Inc = 0 },
		func(x *api.Row, _ api.ID) { x.Of.Inc = 1<<20 + 1 },
		func(x *api.Row, _ api.ID) { x.Not = append(x.Not, id(13, 1)) },
		func(x *api.Row, _ api.ID) { x.Not = append([]api.ID{id(0, 1)}, x.Not...) },
		func(x *api.Row, _ api.ID) { x.Not = setOf(x.Not, []api.ID{x.Of}) },
		func(x *api.Row, _ api.ID) { x.Not = append(x.Not, id(12, 1<<20), id(12, 1<<20)) },
		func(x *api.Row, before api.ID) { x.Of = before },
		func(x *api.Row, before api.ID) { x.Of.Addr, x.Of.Inc = before.Addr, before.Inc-1 },
	}
	for n := 1; n <= 64; n++ {
		for i := range n {
			for k, bend := range wrong {
				l := rise(n)
				bend(&l[i], l[max(i-1, 0)].Of)
				if got := rows.May(l); got != mayOf(l) || i > 0 && got {
					t.Fatalf("May of %d rows, wrong at %d in way %d: %t", n, i, k, got)
				}
			}
		}
	}
}

// P6.1, P6.2: any numbers, in one row and in two: as the row's ID, as its version, and in it.
func TestAnyNumbers(t *testing.T) {
	for _, x := range anyIDs() {
		for _, version := range anyNumbers() {
			l := []api.Row{row(x, version, id(2, 1))}
			checkOne(t, l, x, []api.ID{id(2, 1)})
			checkOne(t, l, x, []api.ID{id(3, 1), x})
			checkOne(t, []api.Row{l[0], row(id(12, 7), 1, x)}, id(12, 7), []api.ID{id(2, 1)})
			checkOne(t, []api.Row{row(id(1, 1), version, id(2, 1), x), l[0]}, id(1, 1), []api.ID{x, id(1, 2)})
		}
	}
}

// P6.1: Get: the first row of an ID, wherever it stands; none of an ID that has only one number of it.
func TestGet(t *testing.T) {
	l := []api.Row{row(id(2, 1), 3, id(1, 1)), row(id(1, 1), 5), row(id(2, 1), 9, id(4, 1)), row(id(13, -1), -4, id(3, 2), id(3, 1))}
	for _, c := range []struct {
		l    []api.Row
		of   api.ID
		want api.Row
		is   bool
	}{
		{nil, id(1, 1), api.Row{}, false},
		{nil, api.ID{}, api.Row{}, false},
		{[]api.Row{{}}, api.ID{}, api.Row{}, true},
		{l, id(1, 1), row(id(1, 1), 5), true},
		{l, id(2, 1), row(id(2, 1), 3, id(1, 1)), true},
		{l, id(13, -1), row(id(13, -1), -4, id(3, 2), id(3, 1)), true},
		{l, id(1, 2), api.Row{}, false},
		{l, id(2, 2), api.Row{}, false},
		{l, id(4, 1), api.Row{}, false},
		{l, api.ID{}, api.Row{}, false},
	} {
		if got, is := rows.Get(c.l, c.of); is != c.is || !equalRow(got, c.want) {
			t.Errorf("Get(%v, %v): %v, %t, not %v, %t", c.l, c.of, got, is, c.want, c.is)
		}
	}
	for n := 1; n < 70; n++ {
		up := rise(n)
		for _, r := range up {
			if got, is := rows.Get(up, r.Of); !is || !equalRow(got, r) {
				t.Errorf("Get of %v among %d: %v, %t", r.Of, n, got, is)
			}
			if got, is := rows.Get(up, id(r.Of.Addr, r.Of.Inc+1)); is || !equalRow(got, api.Row{}) {
				t.Errorf("Get of what is not there, among %d: %v, %t", n, got, is)
			}
		}
	}
}

// P6.1: Same, row by row: in this order, with these versions, and with the same sets in them, however they are listed.
func TestSame(t *testing.T) {
	a, b := row(id(1, 1), 1, id(2, 1), id(3, 1)), row(id(2, 1), 4)
	for _, c := range []struct {
		a, b []api.Row
		want bool
	}{
		{nil, nil, true},
		{nil, []api.Row{}, true},
		{nil, []api.Row{{}}, false},
		{nil, []api.Row{b}, false},
		{[]api.Row{a, b}, []api.Row{a, b}, true},
		{[]api.Row{a, b}, []api.Row{b, a}, false},
		{[]api.Row{a, b}, []api.Row{a}, false},
		{[]api.Row{a, b}, []api.Row{b}, false},
		{[]api.Row{a, a}, []api.Row{a}, false},
		{[]api.Row{b}, []api.Row{{Of: id(2, 1), Version: 4, Not: []api.ID{}}}, true},
		{[]api.Row{b}, []api.Row{row(id(2, 1), 5)}, false},
		{[]api.Row{b}, []api.Row{row(id(2, 2), 4)}, false},
		{[]api.Row{b}, []api.Row{row(id(3, 1), 4)}, false},
		{[]api.Row{b}, []api.Row{row(id(2, 1), 4, id(1, 1))}, false},
		{[]api.Row{a}, []api.Row{row(id(1, 1), 1, id(3, 1), id(2, 1))}, true},
		{[]api.Row{a}, []api.Row{row(id(1, 1), 1, id(3, 1), id(2, 1), id(3, 1))}, true},
		{[]api.Row{a}, []api.Row{row(id(1, 1), 1, id(2, 1))}, false},
		{[]api.Row{a}, []api.Row{row(id(1, 1), 1, id(2, 1), id(3, 1), id(4, 1))}, false},
		{[]api.Row{a}, []api.Row{row(id(1, 1), 1, id(2, 1), id(3, 2))}, false},
		{[]api.Row{{Of: id(0, 0), Version: -1}}, []api.Row{{Of: id(0, 0), Version: -1}}, true},
	} {
		if rows.Same(c.a, c.b) != c.want || rows.Same(c.b, c.a) != c.want {
			t.Errorf("Same(%v, %v): not %t", c.a, c.b, c.want)
		}
	}
}

// P6.1: Same tells one row that differs, wherever it stands, by its ID, its version, and who is in it.
func TestSameOfEveryPlace(t *testing.T) {
	differ := []func(x *api.Row){
		func(x *api.Row) { x.Of.Inc++ },
		func(x *api.Row) { x.Of.Addr++ },
		func(x *api.Row) { x.Version++ },
		func(x *api.Row) { x.Not = append(x.Not, id(1, 1<<20)) },
		func(x *api.Row) { x.Not = slices.Delete(x.Not, 0, min(1, len(x.Not))) },
	}
	for n := 1; n < 70; n++ {
		l := rise(n)
		for i := range l {
			for k, bend := range differ {
				other := rise(n)
				bend(&other[i])
				want := k == 4 && len(l[i].Not) == 0
				if rows.Same(l, other) != want || rows.Same(other, l) != want {
					t.Fatalf("Same of %d rows, other at %d in way %d: not %t", n, i, k, want)
				}
			}
		}
	}
}
