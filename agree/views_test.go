package agree_test

import (
	"math"
	"slices"

	"covey/api"
)

// Views for the tests: what is drawn from a fixed sequence, and what is made entry by entry.

// draw returns the next one of a fixed sequence of numbers.
type draw uint64

func (d *draw) below(n int) int {
	*d = *d*6364136223846793005 + 1442695040888963407
	return int(uint64(*d)>>20) % n
}

// pick draws n things of a list, each any number of times.
func pick[T any](d *draw, n int, of []T) []T {
	l := make([]T, n)
	for i := range l {
		l[i] = of[d.below(len(of))]
	}
	return l
}

// some draws some of the things of a list, in their order: one of so many each time.
func some[T any](d *draw, oneOf int, of []T) []T {
	var l []T
	for _, x := range of {
		if d.below(oneOf) == 0 {
			l = append(l, x)
		}
	}
	return l
}

// valid draws a valid view of some addresses; the more of them are in rows the lesser oneOf is.
func (d *draw) valid(addrs, oneOf int) api.View {
	var v api.View
	var all, members []api.ID
	for addr := 1; addr <= addrs; addr++ {
		x := id(addr, 1+d.below(3))
		all = append(all, x)
		if x.Inc > 1 {
			v.Floors = append(v.Floors, id(addr, x.Inc-1))
		}
		if d.below(6) == 0 {
			continue
		}
		status := uint8(1 + d.below(6))
		if d.below(2) == 0 {
			status = 3
		}
		m := api.Member{ID: x, Status: status}
		if status > 2 {
			m.No = addr
		}
		v.Members, members = append(v.Members, m), append(members, x)
		v.Clock = append(v.Clock, api.Tick{Of: x, N: 1 + d.below(9)})
	}
	for _, x := range all {
		if d.below(oneOf) == 0 {
			not := slices.DeleteFunc(some(d, oneOf, all), func(y api.ID) bool { return y == x })
			v.Rows = append(v.Rows, api.Row{Of: x, Version: 1 + d.below(9), Not: not})
		}
	}
	v.Seen = all
	if d.below(2) == 0 {
		v.Seen = slices.DeleteFunc(slices.Clone(all), func(api.ID) bool { return d.below(addrs) == 0 })
	}
	return v
}

// validViews are valid views of each number of addresses, with few rows and with many.
func validViews(seed draw, each int) []api.View {
	all := []api.View{{}, {Members: []api.Member{}, Floors: []api.ID{}, Rows: []api.Row{}, Clock: []api.Tick{}, Seen: []api.ID{}}}
	for addrs := 1; addrs <= 12; addrs++ {
		for range each {
			all = append(all, seed.valid(addrs, 2), seed.valid(addrs, 3), seed.valid(addrs, 6))
		}
	}
	return all
}

// anyIDs are IDs at and beyond their limits.
func anyIDs() []api.ID {
	return ids(id(0, 0), id(1, 0), id(0, 1), id(1, 1), id(1, 2), id(12, 1048576), id(12, 1048577), id(13, 1), id(-1, 1), id(1, -1),
		id(math.MaxInt, math.MaxInt), id(math.MinInt, math.MinInt), id(math.MinInt, math.MaxInt), id(math.MaxInt, math.MinInt))
}

// anyViews are views most of which are not valid: in no order, with entries twice, with IDs and statuses that are none.
func anyViews(seed draw, n int) []api.View {
	few := ids(id(2, 1), id(1, 2), id(1, 1), id(3, 5), id(0, 1), id(13, 1))
	all := []api.View{{}}
	for k := range n {
		of := few
		if k%3 == 0 {
			of = anyIDs()
		}
		statuses := [][]uint8{{0, 1, 2, 3, 4, 5, 6, 7, 8, 255}, {3, 4, 3, 5, 6}, {1, 2, 6, 7, 8}, {0, 1, 7, 255}}[k%4]
		v := api.View{Floors: pick(&seed, seed.below(4), of), Seen: pick(&seed, seed.below(12), of)}
		for range seed.below(9) {
			x := of[seed.below(len(of))]
			v.Members = append(v.Members, api.Member{ID: x, Status: statuses[seed.below(len(statuses))], No: seed.below(4) - 1})
		}
		for range seed.below(5) {
			r := row(of[seed.below(len(of))], pick(&seed, seed.below(4), of)...)
			r.Version = seed.below(4) - 1
			v.Rows = append(v.Rows, r)
		}
		for range seed.below(4) {
			v.Clock = append(v.Clock, api.Tick{Of: of[seed.below(len(of))], N: seed.below(4) - 1})
		}
		all = append(all, v)
	}
	return all
}

// deep returns a view in new memory.
func deep(v api.View) api.View {
	out := api.View{Members: slices.Concat(v.Members), Floors: slices.Concat(v.Floors), Rows: slices.Concat(v.Rows), Clock: slices.Concat(v.Clock), Seen: slices.Concat(v.Seen)}
	for i, r := range out.Rows {
		out.Rows[i].Not = slices.Concat(r.Not)
	}
	return out
}

// same reports whether views are the same to the letter.
func same(a, b api.View) bool {
	return slices.Equal(a.Members, b.Members) && slices.Equal(a.Floors, b.Floors) && slices.Equal(a.Clock, b.Clock) && slices.Equal(a.Seen, b.Seen) &&
		slices.EqualFunc(a.Rows, b.Rows, func(x, y api.Row) bool {
			return x.Of == y.Of && x.Version == y.Version && slices.Equal(x.Not, y.Not)
		})
}

// reversed returns a view with all its lists in reverse order.
func reversed(v api.View) api.View {
	out := deep(v)
	slices.Reverse(out.Members)
	slices.Reverse(out.Floors)
	slices.Reverse(out.Rows)
	slices.Reverse(out.Clock)
	slices.Reverse(out.Seen)
	for _, r := range out.Rows {
		slices.Reverse(r.Not)
	}
	return out
}

// twice returns a view with all its lists twice.
func twice(v api.View) api.View {
	a, b := deep(v), deep(v)
	for i, r := range a.Rows {
		a.Rows[i].Not = slices.Concat(r.Not, r.Not)
	}
	return api.View{
		Members: slices.Concat(a.Members, b.Members),
		Floors:  slices.Concat(a.Floors, b.Floors),
		Rows:    slices.Concat(a.Rows, b.Rows),
		Clock:   slices.Concat(a.Clock, b.Clock),
		Seen:    slices.Concat(a.Seen, b.Seen),
	}
}
