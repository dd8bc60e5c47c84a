package rows_test

import (
	"cmp"
	"maps"
	"math"
	"slices"
	"testing"

	"covey/api"
	"covey/rows"
)

// The chapter's terms in another way than the package has them: sets and lists of rows are maps, and all limits stand here as numbers, so that no constant is taken on trust.

func order(a, b api.ID) int {
	return cmp.Or(cmp.Compare(a.Addr, b.Addr), cmp.Compare(a.Inc, b.Inc))
}

// setOf returns the IDs of some lists, each once, in increasing order.
func setOf(lists ...[]api.ID) []api.ID {
	in := map[api.ID]int{}
	for _, l := range lists {
		for _, x := range l {
			in[x]++
		}
	}
	return slices.SortedFunc(maps.Keys(in), order)
}

func sameSet(l, m []api.ID) bool { return slices.Equal(setOf(l), setOf(m)) }

// firstsOf returns the first row of each ID.
func firstsOf(l []api.Row) map[api.ID]api.Row {
	firsts := map[api.ID]api.Row{}
	for _, r := range l {
		if _, is := firsts[r.Of]; !is {
			firsts[r.Of] = r
		}
	}
	return firsts
}

// ownersOf returns whose rows are in some lists, in increasing order.
func ownersOf(lists ...[]api.Row) []api.ID {
	var ids []api.ID
	for _, r := range slices.Concat(lists...) {
		ids = append(ids, r.Of)
	}
	return setOf(ids)
}

func validID(x api.ID) bool {
	return x.Addr >= 1 && x.Addr <= 12 && x.Inc >= 1 && x.Inc <= 1048576
}

func mayOf(l []api.Row) bool {
	if len(l) > 64 {
		return false
	}
	for i, r := range l {
		if !validID(r.Of) || r.Version < 1 || r.Version > 1099511627776 {
			return false
		}
		for j, x := range r.Not {
			if !validID(x) || x == r.Of || j > 0 && order(r.Not[j-1], x) >= 0 {
				return false
			}
		}
		if i > 0 && order(l[i-1].Of, r.Of) >= 0 {
			return false
		}
	}
	return true
}

func sameOf(a, b []api.Row) bool {
	if len(a) != len(b) {
		return false
	}
	for i, r := range a {
		if r.Of != b[i].Of || r.Version != b[i].Version || !sameSet(r.Not, b[i].Not) {
			return false
		}
	}
	return true
}

func setRowOf(l []api.Row, of api.ID, not []api.ID) ([]api.Row, api.Errno) {
	for _, x := range append(slices.Clone(not), of) {
		if !validID(x) {
			return l, api.ErrForm
		}
	}
	want := slices.DeleteFunc(setOf(not), func(x api.ID) bool { return x == of })
	old, is := firstsOf(l)[of]
	if sameSet(old.Not, want) {
		return l, api.OK
	}
	if old.Version >= 1099511627776 {
		return l, api.ErrTooLarge
	}
	next := api.Row{Of: of, Version: old.Version + 1, Not: want}
	var out []api.Row
	done := false
	for _, r := range l {
		if !done && is && r.Of == of {
			r, done = next, true
		}
		if !done && !is && order(r.Of, of) > 0 {
			out, done = append(out, next), true
		}
		out = append(out, r)
	}
	if !done {
		out = append(out, next)
	}
	return out, api.OK
}

func joinOf(a, b []api.Row) []api.Row {
	firstsA, firstsB := firstsOf(a), firstsOf(b)
	var out []api.Row
	for _, of := range ownersOf(a, b) {
		x, inA := firstsA[of]
		y, inB := firstsB[of]
		switch {
		case inA && inB && x.Version == y.Version:
			out = append(out, api.Row{Of: of, Version: x.Version, Not: setOf(x.Not, y.Not)})
		case inA && (!inB || x.Version > y.Version):
			out = append(out, x)
		default:
			out = append(out, y)
		}
	}
	return out
}

func isGone(floors []api.ID, x api.ID) bool {
	var of []int
	for _, f := range floors {
		if f.Addr == x.Addr {
			of = append(of, f.Inc)
		}
	}
	return len(of) > 0 && x.Inc <= slices.Max(of)
}

func goneOf(l []api.Row, floors []api.ID) []api.Row {
	var out []api.Row
	for _, r := range l {
		if isGone(floors, r.Of) {
			continue
		}
		var not []api.ID
		for _, x := range r.Not {
			if !isGone(floors, x) {
				not = append(not, x)
			}
		}
		out = append(out, api.Row{Of: r.Of, Version: r.Version, Not: not})
	}
	return out
}

func notOf(l []api.Row, of []api.ID) []api.ID {
	firsts := firstsOf(l)
	var lists [][]api.ID
	for _, x := range of {
		lists = append(lists, firsts[x].Not)
	}
	return setOf(lists...)
}

// equal reports whether rows are the same to the letter: each list in the same order, too.
func equal(a, b []api.Row) bool {
	return slices.EqualFunc(a, b, equalRow)
}

func equalRow(x, y api.Row) bool {
	return x.Of == y.Of && x.Version == y.Version && slices.Equal(x.Not, y.Not)
}

// checkOne holds all calls about one list against the model, for one of its IDs and some others.
func checkOne(t *testing.T, l []api.Row, of api.ID, ids []api.ID) {
	t.Helper()
	if got := rows.May(l); got != mayOf(l) {
		t.Fatalf("May(%v): %t", l, got)
	}
	want, wantIs := firstsOf(l)[of]
	if got, is := rows.Get(l, of); is != wantIs || !equalRow(got, want) {
		t.Fatalf("Get(%v, %v): %v, %t, not %v, %t", l, of, got, is, want, wantIs)
	}
	set, e := rows.Set(l, of, ids)
	if want, wantE := setRowOf(l, of, ids); e != wantE || !equal(set, want) {
		t.Fatalf("Set(%v, %v, %v): %v, %v, not %v, %v", l, of, ids, set, e, want, wantE)
	}
	if got, want := rows.Gone(l, ids), goneOf(l, ids); !equal(got, want) {
		t.Fatalf("Gone(%v, %v): %v, not %v", l, ids, got, want)
	}
	for _, some := range [][]api.ID{ids, {of}} {
		if got, want := rows.Not(l, some), notOf(l, some); !slices.Equal(got, want) {
			t.Fatalf("Not(%v, %v): %v, not %v", l, some, got, want)
		}
	}
}

// checkTwo holds all calls about two lists against the model.
func checkTwo(t *testing.T, a, b []api.Row) {
	t.Helper()
	if got, want := rows.Join(a, b), joinOf(a, b); !equal(got, want) {
		t.Fatalf("Join(%v, %v): %v, not %v", a, b, got, want)
	}
	if got := rows.Same(a, b); got != sameOf(a, b) {
		t.Fatalf("Same(%v, %v): %t", a, b, got)
	}
}

func id(addr, inc int) api.ID { return api.ID{Addr: addr, Inc: inc} }

func row(of api.ID, version int, not ...api.ID) api.Row {
	return api.Row{Of: of, Version: version, Not: not}
}

// fewIDs are some that differ in one number alone, or in both, one of which increases while the other one decreases.
func fewIDs() []api.ID { return []api.ID{id(1, 1), id(1, 2), id(2, 1), id(3, 5)} }

// anyNumbers are the limits of addresses, incarnations and versions, what is beside them, and the ends of all numbers.
func anyNumbers() []int {
	return []int{math.MinInt, math.MinInt + 1, -1, 0, 1, 2, 12, 13, 1 << 20, 1<<20 + 1, 1<<40 - 1, 1 << 40, 1<<40 + 1, math.MaxInt - 1, math.MaxInt}
}

// anyIDs are IDs, most of them invalid, of all pairs of these numbers.
func anyIDs() []api.ID {
	var l []api.ID
	for _, addr := range anyNumbers() {
		for _, inc := range anyNumbers() {
			l = append(l, id(addr, inc))
		}
	}
	return l
}

// listsOf are all lists of some things up to a length, in every order, with each one any number of times.
func listsOf[T any](things []T, longest int) [][]T {
	lists := [][]T{nil}
	for from := 0; len(lists[from]) < longest; from++ {
		for _, x := range things {
			lists = append(lists, append(slices.Clone(lists[from]), x))
		}
	}
	return lists
}

// rowsOf are all rows of some IDs, versions and lists of those that are not reached.
func rowsOf(ids []api.ID, versions []int, nots [][]api.ID) []api.Row {
	var l []api.Row
	for _, of := range ids {
		for _, version := range versions {
			for _, not := range nots {
				l = append(l, row(of, version, not...))
			}
		}
	}
	return l
}

// validOf are all valid lists of rows of some increasing IDs, with versions up to a greatest one, and with each set of the others of these IDs.
func validOf(ids []api.ID, most int) [][]api.Row {
	lists := [][]api.Row{nil}
	for _, of := range ids {
		others := slices.DeleteFunc(slices.Clone(ids), func(x api.ID) bool { return x == of })
		for _, l := range slices.Clone(lists) {
			for version := 1; version <= most; version++ {
				for _, not := range subsets(others) {
					lists = append(lists, append(slices.Clone(l), row(of, version, not...)))
				}
			}
		}
	}
	return lists
}

// subsets are all sets of some increasing IDs.
func subsets(ids []api.ID) [][]api.ID {
	sets := [][]api.ID{nil}
	for _, x := range ids {
		for _, s := range slices.Clone(sets) {
			sets = append(sets, append(slices.Clone(s), x))
		}
	}
	return sets
}

// rise returns n valid rows in increasing order, several of one address among them, most of which have others in them.
func rise(n int) []api.Row {
	l := make([]api.Row, n)
	for i := range l {
		l[i] = row(id(1+i*12/n, 1+3*i), 1+i%5)
		for k := range i % 4 {
			l[i].Not = append(l[i].Not, id(1+i*12/n, 2+3*i+k), id(12, 1+1000*i+k))
		}
		slices.SortFunc(l[i].Not, order)
	}
	return l
}

// fall returns rows in reverse order, each with those in it in reverse order.
func fall(l []api.Row) []api.Row {
	out := deep(l)
	slices.Reverse(out)
	for _, r := range out {
		slices.Reverse(r.Not)
	}
	return out
}

// deep returns rows in new memory.
func deep(l []api.Row) []api.Row {
	out := slices.Clone(l)
	for i, r := range out {
		out[i].Not = append([]api.ID(nil), r.Not...)
	}
	return out
}

// draw returns the next one of a fixed sequence of numbers.
type draw uint64

func (d *draw) below(n int) int {
	*d = *d*6364136223846793005 + 1442695040888963407
	return int(uint64(*d)>>20) % n
}

func (d *draw) ids(n int, of []api.ID) []api.ID {
	l := make([]api.ID, n)
	for i := range l {
		l[i] = of[d.below(len(of))]
	}
	return l
}

// rows draws n rows of any of some IDs, some versions, and with up to some others in them, in any order.
func (d *draw) rows(n int, of []api.ID, versions []int, longest int) []api.Row {
	l := make([]api.Row, n)
	for i := range l {
		l[i] = row(of[d.below(len(of))], versions[d.below(len(versions))], d.ids(d.below(longest+1), of)...)
	}
	return l
}

// valid draws valid rows of some of these increasing valid IDs.
func (d *draw) valid(of []api.ID, most int) []api.Row {
	var l []api.Row
	for _, x := range of {
		if d.below(3) == 0 {
			continue
		}
		not := slices.DeleteFunc(setOf(d.ids(d.below(4), of)), func(y api.ID) bool { return y == x })
		l = append(l, row(x, 1+d.below(most), not...))
	}
	return l
}

func (d *draw) shuffle(lists [][]api.Row) {
	for i := range lists {
		k := d.below(i + 1)
		lists[i], lists[k] = lists[k], lists[i]
	}
}
