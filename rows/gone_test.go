package rows_test

import (
	"math"
	"slices"
	"testing"

	"covey/api"
	"covey/rows"
)

// P6.2: Gone: neither rows of those that are Removed, nor they in others' rows: up to the floor of their address, at it, and above it.
func TestGone(t *testing.T) {
	l := []api.Row{
		row(id(1, 1), 1, id(1, 2), id(2, 1)),
		row(id(1, 2), 2, id(1, 1), id(2, 3)),
		row(id(2, 1), 3, id(1, 1), id(1, 2), id(2, 3), id(3, 1)),
		row(id(2, 3), 4),
		row(id(3, 1), 5, id(1, 1)),
	}
	for _, c := range []struct {
		floors []api.ID
		want   []api.Row
	}{
		{nil, l},
		{[]api.ID{}, l},
		{[]api.ID{id(1, 0), id(2, 0), id(4, 9)}, l},
		{[]api.ID{id(1, 1)}, []api.Row{row(id(1, 2), 2, id(2, 3)), row(id(2, 1), 3, id(1, 2), id(2, 3), id(3, 1)), l[3], row(id(3, 1), 5)}},
		{[]api.ID{id(1, 2)}, []api.Row{row(id(2, 1), 3, id(2, 3), id(3, 1)), l[3], row(id(3, 1), 5)}},
		{[]api.ID{id(1, 3)}, []api.Row{row(id(2, 1), 3, id(2, 3), id(3, 1)), l[3], row(id(3, 1), 5)}},
		{[]api.ID{id(2, 2)}, []api.Row{row(id(1, 1), 1, id(1, 2)), l[1], l[3], l[4]}},
		{[]api.ID{id(2, 3), id(3, 1)}, []api.Row{row(id(1, 1), 1, id(1, 2)), row(id(1, 2), 2, id(1, 1))}},
		{[]api.ID{id(3, 1)}, []api.Row{l[0], l[1], row(id(2, 1), 3, id(1, 1), id(1, 2), id(2, 3)), l[3]}},
		{[]api.ID{id(1, 1048576), id(2, 1048576), id(3, 1048576)}, nil},
	} {
		if got := rows.Gone(l, c.floors); !equal(got, c.want) {
			t.Errorf("Gone(%v, %v): %v, not %v", l, c.floors, got, c.want)
		}
	}
}

// P6.2: a floor that is just an ID's own incarnation removes it, one less does not, and none of another address does.
func TestGoneAtTheFloor(t *testing.T) {
	for _, of := range anyIDs() {
		l := []api.Row{row(of, 3, id(5, 5)), row(id(5, 5), 4, of)}
		for _, inc := range []int{math.MinInt, of.Inc - 1, of.Inc, of.Inc + 1, math.MaxInt} {
			for _, floors := range [][]api.ID{{id(of.Addr, inc)}, {id(5, 4), id(of.Addr, math.MinInt), id(of.Addr, inc)}, {id(of.Addr, inc), id(of.Addr, inc), id(5, math.MinInt)}} {
				want := l
				if of.Inc <= inc {
					want = []api.Row{row(id(5, 5), 4)}
				}
				if got := rows.Gone(l, floors); !equal(got, want) {
					t.Fatalf("Gone(%v, %v): %v, not %v", l, floors, got, want)
				}
			}
		}
		for _, other := range []int{of.Addr - 1, of.Addr + 1} {
			if got := rows.Gone(l, []api.ID{id(other, math.MaxInt)}); !equal(got, l) {
				t.Fatalf("Gone(%v, of %d): %v", l, other, got)
			}
		}
	}
}

// P6.2: floors in any order, several of an address: the greatest one counts.
func TestGoneByAnyFloors(t *testing.T) {
	l := []api.Row{row(id(2, 5), 1, id(3, 5), id(3, 6)), row(id(2, 6), 1, id(2, 5), id(3, 6)), row(id(3, 5), 7)}
	want := []api.Row{row(id(2, 6), 1, id(3, 6))}
	for _, floors := range [][]api.ID{
		{id(2, 5), id(3, 5)},
		{id(3, 5), id(2, 5)},
		{id(2, 1), id(2, 5), id(3, 5), id(3, 1)},
		{id(3, 5), id(2, 5), id(2, 1), id(2, -9), id(3, 1), id(2, 5)},
		{id(0, 9), id(3, 2), id(2, 3), id(3, 5), id(1, 99), id(2, 5), id(4, 99)},
	} {
		if got := rows.Gone(l, floors); !equal(got, want) {
			t.Errorf("Gone(%v, %v): %v, not %v", l, floors, got, want)
		}
	}
}

// P6.2: of lists that are not valid all rows, and all in them, stay in their order, if they are not Removed.
func TestGoneOfListsThatAreNotValid(t *testing.T) {
	l := []api.Row{row(id(3, 1), 2, id(4, 1), id(1, 1), id(3, 1), id(4, 1)), row(id(1, 1), -1, id(1, 1)), row(id(3, 1), 1, id(1, 1)), {Of: id(0, 0), Not: []api.ID{id(13, 0), id(1, 0)}}}
	want := []api.Row{row(id(3, 1), 2, id(4, 1), id(3, 1), id(4, 1)), row(id(3, 1), 1), row(id(0, 0), 0, id(13, 0))}
	if got := rows.Gone(l, []api.ID{id(1, 1)}); !equal(got, want) {
		t.Errorf("Gone(%v): %v, not %v", l, got, want)
	}
	if got := rows.Gone(l, nil); !equal(got, l) {
		t.Errorf("Gone(%v) by no floors: %v", l, got)
	}
}

// P6.2: Not: all in the rows of some IDs, each once, in increasing order; of the first row of each.
func TestNot(t *testing.T) {
	l := []api.Row{
		row(id(1, 1), 1, id(2, 1), id(4, 1)),
		row(id(2, 1), 9),
		row(id(3, 1), 1, id(1, 1), id(2, 1)),
		row(id(3, 2), 1, id(3, 1)),
	}
	twice := []api.Row{row(id(3, 1), 1, id(9, 1), id(4, 1), id(3, 1), id(9, 1)), row(id(1, 1), 1, id(5, 1)), row(id(3, 1), 2, id(6, 1)), row(id(13, 0), -1, id(0, 0))}
	for _, c := range []struct {
		l    []api.Row
		of   []api.ID
		want []api.ID
	}{
		{nil, nil, nil},
		{nil, []api.ID{id(1, 1)}, nil},
		{l, nil, nil},
		{l, []api.ID{}, nil},
		{l, []api.ID{id(1, 1)}, []api.ID{id(2, 1), id(4, 1)}},
		{l, []api.ID{id(2, 1)}, nil},
		{l, []api.ID{id(3, 1)}, []api.ID{id(1, 1), id(2, 1)}},
		{l, []api.ID{id(3, 1), id(1, 1)}, []api.ID{id(1, 1), id(2, 1), id(4, 1)}},
		{l, []api.ID{id(1, 1), id(1, 1)}, []api.ID{id(2, 1), id(4, 1)}},
		{l, []api.ID{id(3, 2), id(2, 1), id(1, 1), id(3, 1)}, []api.ID{id(1, 1), id(2, 1), id(3, 1), id(4, 1)}},
		{l, []api.ID{id(1, 2), id(3, 3), id(4, 1), id(0, 0)}, nil},
		{twice, []api.ID{id(3, 1)}, []api.ID{id(3, 1), id(4, 1), id(9, 1)}},
		{twice, []api.ID{id(3, 1), id(1, 1)}, []api.ID{id(3, 1), id(4, 1), id(5, 1), id(9, 1)}},
		{twice, []api.ID{id(13, 0)}, []api.ID{id(0, 0)}},
		{twice, []api.ID{id(13, 0), id(9, 9)}, []api.ID{id(0, 0)}},
	} {
		if got := rows.Not(c.l, c.of); !slices.Equal(got, c.want) {
			t.Errorf("Not(%v, %v): %v, not %v", c.l, c.of, got, c.want)
		}
	}
}
