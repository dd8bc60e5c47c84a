package rows_test

import (
	"math"
	"slices"
	"testing"

	"covey/api"
	"covey/rows"
)

// checkSet calls Set, and holds what it returns against rows and an error.
func checkSet(t *testing.T, l []api.Row, of api.ID, not []api.ID, want []api.Row, wantE api.Errno) {
	t.Helper()
	if got, e := rows.Set(l, of, not); e != wantE || !equal(got, want) {
		t.Errorf("Set(%v, %v, %v): %v, %v, not %v, %v", l, of, not, got, e, want, wantE)
	}
}

func TestExamplesOfSet(t *testing.T) {
	one := []api.Row{row(id(1, 1), 1, id(2, 1))}
	none := []api.Row{row(id(1, 1), 2)}
	checkSet(t, nil, id(1, 1), []api.ID{id(2, 1)}, one, api.OK)
	checkSet(t, one, id(1, 1), nil, none, api.OK)
	checkSet(t, none, id(1, 1), nil, none, api.OK)
}

// P6.2: a row that is not there: version 1, before the first one whose ID is not less.
func TestSetOfANewRow(t *testing.T) {
	a, b, c := row(id(1, 1), 2, id(3, 1)), row(id(2, 1), 7), row(id(2, 3), 1, id(1, 1))
	not := []api.ID{id(4, 1)}
	for _, x := range []struct {
		l    []api.Row
		of   api.ID
		want []api.Row
	}{
		{nil, id(1, 1), []api.Row{row(id(1, 1), 1, not...)}},
		{[]api.Row{}, id(12, 1048576), []api.Row{row(id(12, 1048576), 1, not...)}},
		{[]api.Row{b, c}, id(1, 1), []api.Row{row(id(1, 1), 1, not...), b, c}},
		{[]api.Row{a, b, c}, id(1, 2), []api.Row{a, row(id(1, 2), 1, not...), b, c}},
		{[]api.Row{a, b, c}, id(2, 2), []api.Row{a, b, row(id(2, 2), 1, not...), c}},
		{[]api.Row{a, b, c}, id(2, 4), []api.Row{a, b, c, row(id(2, 4), 1, not...)}},
		{[]api.Row{a, b, c}, id(3, 1), []api.Row{a, b, c, row(id(3, 1), 1, not...)}},
	} {
		checkSet(t, x.l, x.of, not, x.want, api.OK)
	}
}

// P6.2: a row that is there: the next version, in its place; unchanged, if it has exactly these already.
func TestSetOfARow(t *testing.T) {
	l := []api.Row{row(id(1, 1), 2, id(3, 1)), row(id(2, 1), 7), row(id(2, 3), 1, id(1, 1), id(4, 1))}
	for _, x := range []struct {
		of   api.ID
		not  []api.ID
		at   int
		want api.Row
	}{
		{id(1, 1), nil, 0, row(id(1, 1), 3)},
		{id(1, 1), []api.ID{id(3, 2)}, 0, row(id(1, 1), 3, id(3, 2))},
		{id(1, 1), []api.ID{id(3, 1), id(2, 1)}, 0, row(id(1, 1), 3, id(2, 1), id(3, 1))},
		{id(1, 1), []api.ID{id(3, 1)}, 0, l[0]},
		{id(2, 1), []api.ID{id(1, 1)}, 1, row(id(2, 1), 8, id(1, 1))},
		{id(2, 1), nil, 1, l[1]},
		{id(2, 1), []api.ID{}, 1, l[1]},
		{id(2, 3), []api.ID{id(1, 1)}, 2, row(id(2, 3), 2, id(1, 1))},
		{id(2, 3), []api.ID{id(4, 1), id(1, 1)}, 2, l[2]},
		{id(2, 3), []api.ID{id(4, 1), id(1, 1), id(4, 1)}, 2, l[2]},
	} {
		want := deep(l)
		want[x.at] = x.want
		checkSet(t, l, x.of, x.not, want, api.OK)
	}
}

// P6.2: each one once, in increasing order, except itself.
func TestSetOfWhom(t *testing.T) {
	of := id(2, 2)
	for _, x := range []struct{ not, want []api.ID }{
		{[]api.ID{id(1, 1)}, []api.ID{id(1, 1)}},
		{[]api.ID{id(3, 1), id(1, 1), id(2, 1), id(2, 3)}, []api.ID{id(1, 1), id(2, 1), id(2, 3), id(3, 1)}},
		{[]api.ID{id(1, 1), id(1, 1)}, []api.ID{id(1, 1)}},
		{[]api.ID{id(2, 2), id(1, 1)}, []api.ID{id(1, 1)}},
		{[]api.ID{id(3, 1), id(2, 2), id(1, 1), id(2, 2), id(3, 1)}, []api.ID{id(1, 1), id(3, 1)}},
	} {
		checkSet(t, nil, of, x.not, []api.Row{row(of, 1, x.want...)}, api.OK)
		checkSet(t, []api.Row{row(of, 1)}, of, x.not, []api.Row{row(of, 2, x.want...)}, api.OK)
		checkSet(t, []api.Row{row(of, 4, x.want...)}, of, x.not, []api.Row{row(of, 4, x.want...)}, api.OK)
	}
}

// P6.2: a row that is not there, set to nobody, or to itself alone, is not there; one that is there is set to nobody by itself alone.
func TestSetToNobody(t *testing.T) {
	l := rise(5)
	for _, not := range [][]api.ID{nil, {}, {id(7, 7)}, {id(7, 7), id(7, 7)}} {
		checkSet(t, nil, id(7, 7), not, nil, api.OK)
		checkSet(t, l, id(7, 7), not, l, api.OK)
		checkSet(t, []api.Row{row(id(7, 7), 3)}, id(7, 7), not, []api.Row{row(id(7, 7), 3)}, api.OK)
		checkSet(t, []api.Row{row(id(7, 7), 3, id(1, 1))}, id(7, 7), not, []api.Row{row(id(7, 7), 4)}, api.OK)
	}
	if got, is := rows.Get(nil, id(7, 7)); is {
		t.Errorf("Get: %v", got)
	}
}

// Errors: an ID that is not valid, as the row's and in it, wherever it stands: this comes before what would be too large, and also where nothing would change. The rows stay as they are.
func TestSetOfWhatIsNotValid(t *testing.T) {
	most := []api.Row{row(id(1, 1), 1099511627776, id(2, 1))}
	for _, l := range [][]api.Row{nil, most, rise(64), rise(65), fall(rise(5)), {row(api.ID{}, 1, api.ID{}), row(id(13, 1), 1, id(2, 1))}} {
		for _, x := range []api.ID{{}, id(0, 1), id(13, 1), id(1, 0), id(1, 1048577), id(-1, -1), id(math.MinInt, 1), id(1, math.MaxInt)} {
			checkSet(t, l, x, nil, l, api.ErrForm)
			checkSet(t, l, x, []api.ID{x}, l, api.ErrForm)
			checkSet(t, l, x, []api.ID{id(2, 1)}, l, api.ErrForm)
			for _, of := range []api.ID{id(1, 1), id(12, 1048576)} {
				checkSet(t, l, of, []api.ID{x}, l, api.ErrForm)
				checkSet(t, l, of, []api.ID{x, id(2, 1)}, l, api.ErrForm)
				checkSet(t, l, of, []api.ID{id(2, 1), x}, l, api.ErrForm)
				checkSet(t, l, of, []api.ID{id(2, 1), x, of}, l, api.ErrForm)
			}
		}
	}
}

// Errors: a new version behind the greatest one, and behind what is above it; not if the row has exactly these already, or is not the one that is set.
func TestSetOfWhatIsTooLarge(t *testing.T) {
	of, other := id(2, 1), row(id(3, 1), 1, id(1, 1))
	for _, version := range []int{1099511627776, 1099511627777, math.MaxInt - 1, math.MaxInt} {
		l := []api.Row{row(of, version, id(1, 1), id(4, 1)), other}
		for _, not := range [][]api.ID{nil, {of}, {id(1, 1)}, {id(4, 1)}, {id(1, 1), id(4, 2)}, {id(1, 1), id(4, 1), id(5, 1)}} {
			checkSet(t, l, of, not, l, api.ErrTooLarge)
		}
		checkSet(t, l, of, []api.ID{id(4, 1), id(1, 1), of}, l, api.OK)
		checkSet(t, l, other.Of, nil, []api.Row{l[0], row(other.Of, 2)}, api.OK)
		checkSet(t, l, id(2, 2), []api.ID{of}, []api.Row{l[0], row(id(2, 2), 1, of), other}, api.OK)
	}
	for _, version := range []int{math.MinInt, -1, 0, 1, 1099511627774, 1099511627775} {
		checkSet(t, []api.Row{row(of, version), other}, of, []api.ID{id(1, 1)}, []api.Row{row(of, version+1, id(1, 1)), other}, api.OK)
	}
}

// P6.2: there may be any number of rows, and of those in one.
func TestSetOfMany(t *testing.T) {
	for n := 60; n < 140; n++ {
		l := rise(n)
		want := append(rise(n), row(id(12, 1048576), 1, id(1, 1)))
		checkSet(t, l, id(12, 1048576), []api.ID{id(1, 1)}, want, api.OK)
		checkSet(t, nil, id(12, 1048576), ownersOf(fall(l)), []api.Row{row(id(12, 1048576), 1, ownersOf(l)...)}, api.OK)
		want = rise(n)
		want[n-1] = row(l[n-1].Of, l[n-1].Version+1, id(1, 1<<20))
		checkSet(t, l, l[n-1].Of, []api.ID{id(1, 1<<20)}, want, api.OK)
	}
}

// P6.2: lists that are not valid: the first row of an ID is set, all others stay as they are; a new one stands before the first one whose ID is not less, wherever that is.
func TestSetInListsThatAreNotValid(t *testing.T) {
	a, b, c := row(id(3, 1), 2, id(2, 1), id(1, 1)), row(id(1, 1), 5, id(1, 1)), row(id(3, 1), 9, id(4, 1), id(4, 1))
	l := []api.Row{a, b, c}
	checkSet(t, l, id(3, 1), []api.ID{id(5, 1)}, []api.Row{row(id(3, 1), 3, id(5, 1)), b, c}, api.OK)
	checkSet(t, l, id(3, 1), []api.ID{id(4, 1)}, []api.Row{row(id(3, 1), 3, id(4, 1)), b, c}, api.OK)
	checkSet(t, l, id(3, 1), []api.ID{id(1, 1), id(2, 1)}, l, api.OK)
	checkSet(t, l, id(1, 1), []api.ID{id(1, 1)}, []api.Row{a, row(id(1, 1), 6), c}, api.OK)
	checkSet(t, l, id(1, 1), []api.ID{id(2, 1), id(1, 1)}, []api.Row{a, row(id(1, 1), 6, id(2, 1)), c}, api.OK)
	checkSet(t, l, id(2, 1), []api.ID{id(5, 1)}, []api.Row{row(id(2, 1), 1, id(5, 1)), a, b, c}, api.OK)
	checkSet(t, []api.Row{b, a, b, c}, id(2, 1), []api.ID{id(5, 1)}, []api.Row{b, row(id(2, 1), 1, id(5, 1)), a, b, c}, api.OK)
	checkSet(t, l, id(3, 2), []api.ID{id(5, 1)}, []api.Row{a, b, c, row(id(3, 2), 1, id(5, 1))}, api.OK)
	checkSet(t, l, id(2, 1), nil, l, api.OK)
}

// P6.2: all calls about one list, of all short ones, valid and not: with IDs that stand twice, that do not increase, and that are in their own rows.
func TestShortRows(t *testing.T) {
	ids := fewIDs()[1:3]
	lists := append(listsOf(rowsOf(ids, []int{0, 1, 2}, listsOf(ids, 2)), 2), validOf(fewIDs()[:3], 1)...)
	for _, l := range lists {
		for _, of := range fewIDs() {
			for _, not := range [][]api.ID{nil, {id(2, 1)}, {id(2, 1), id(1, 2)}, {id(1, 2), id(1, 1), id(1, 2)}} {
				checkOne(t, l, of, not)
			}
		}
	}
}

// P6.2: all calls about one list of every length, drawn, in every order, of few IDs and of many.
func TestRowsOfEveryLength(t *testing.T) {
	d := draw(1)
	for n := range 100 {
		for _, of := range [][]api.ID{fewIDs(), ownersOf(rise(40)), anyIDs()} {
			for _, l := range [][]api.Row{d.rows(n, of, []int{1, 2, 3}, 4), d.rows(n, of, anyNumbers(), 2)} {
				checkOne(t, l, of[d.below(len(of))], d.ids(d.below(6), of))
				checkOne(t, l, id(1, 1), d.ids(d.below(6), fewIDs()))
			}
		}
		for _, l := range [][]api.Row{rise(n), fall(rise(n)), slices.Concat(rise(n), fall(rise(n)))} {
			ids := ownersOf(rise(n + 1))
			checkOne(t, l, ids[d.below(n+1)], d.ids(5, ids))
			checkOne(t, l, ownersOf(l, rise(1))[0], d.ids(d.below(9), ids))
		}
	}
}
