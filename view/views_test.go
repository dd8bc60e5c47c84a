package view_test

import (
	"slices"

	"covey/api"
)

// Views for the tests: what is drawn from a fixed sequence, and what is made entry by entry.

// draw returns the next one of a fixed sequence of numbers.
type draw uint64

func (d *draw) below(n int) int {
	*d = *d*6364136223846793005 + 1442695040888963407
	return int(uint64(*d)>>20) % n
}

// pick draws n things of a list, each any number of times.
func pick[T any](d *draw, n int, of []T) []T {
	l := make([]T, n)
	for i := range l {
		l[i] = of[d.below(len(of))]
	}
	return l
}

// shuffle brings things into a drawn order.
func shuffle[T any](d *draw, l []T) {
	for i := range l {
		k := d.below(i + 1)
		l[i], l[k] = l[k], l[i]
	}
}

// life draws the ID of a life of an address that is above its floor.
func (d *draw) life(addr int, floors map[int]int, lives int) api.ID {
	return id(addr, floors[addr]+1+d.below(lives))
}

// valid draws a valid view of the addresses from first to last: each with up to some lives, numbers, versions and counts.
func (d *draw) valid(first, last, lives, most int) api.View {
	var v api.View
	for addr := first; addr <= last; addr++ {
		if floor := d.below(lives); floor > 0 {
			v.Floors = append(v.Floors, id(addr, floor))
		}
	}
	floors := floorsOf(v.Floors)
	var seen []api.ID
	for addr := first; addr <= last; addr++ {
		x := api.Member{ID: d.life(addr, floors, lives), Status: uint8(1 + d.below(6)), No: d.below(most + 1)}
		if mayMember(x) {
			v.Members = append(v.Members, x)
		}
		if d.below(3) > 0 {
			v.Rows = append(v.Rows, d.row(d.life(addr, floors, lives), first, last, floors, lives, most))
		}
		if d.below(3) > 0 {
			v.Clock = append(v.Clock, tick(addr, 1+d.below(lives), 1+d.below(most)))
		}
		if d.below(3) == 0 {
			seen = append(seen, id(addr, 1+d.below(lives)))
		}
	}
	v.Seen = setOf(seen)
	return v
}

// row draws a row of an ID in which others above their floors are.
func (d *draw) row(of api.ID, first, last int, floors map[int]int, lives, most int) api.Row {
	var not []api.ID
	for addr := first; addr <= last; addr++ {
		if x := d.life(addr, floors, lives); x != of && d.below(3) == 0 {
			not = append(not, x)
		}
	}
	return row(of, 1+d.below(most), not...)
}

// drawn are valid views of few addresses and numbers, so that there is much that they have in common, and of many.
func drawn(seed draw) []api.View {
	all := []api.View{{}, {Members: []api.Member{}, Floors: []api.ID{}, Rows: []api.Row{}, Clock: []api.Tick{}, Seen: []api.ID{}}}
	for range 30 {
		all = append(all, seed.valid(3, 4, 2, 1), seed.valid(1, 3, 2, 2), seed.valid(1, 12, 3, 9))
	}
	// And such whose clocks are the same, or one behind the other.
	for _, v := range slices.Clone(all[:40]) {
		w := deep(v)
		w.Seen = seed.valid(1, 12, 2, 1).Seen
		ahead := deep(w)
		ahead.Clock = joinOf(v, api.View{Clock: ticks(tick(2, 1, 3))}).Clock
		all = append(all, w, ahead)
	}
	return all
}

// full returns a valid view of all 12 addresses, each above a floor: with n rows and n ticks, at most 64, and as many who have seen it.
func full(n int) api.View {
	var v api.View
	for i := range 12 {
		x := member(i+1, 101+i, uint8(1+i%6), 1+i*7%5)
		if x.Status < 3 {
			x.No = 0
		}
		v.Members, v.Floors = append(v.Members, x), append(v.Floors, id(i+1, 100))
	}
	for i := range n {
		of := id(1+i*12/n, 101+2*i)
		v.Rows = append(v.Rows, row(of, 1+i%5, setOf(ids(id(1+i*12/n, 102+2*i), id(12, 300+i)))...))
		v.Clock = append(v.Clock, api.Tick{Of: of, N: 1 + i%7})
		v.Seen = append(v.Seen, of)
	}
	return v
}

// deep returns a view in new memory.
func deep(v api.View) api.View {
	out := api.View{Members: slices.Concat(v.Members), Floors: slices.Concat(v.Floors), Rows: slices.Concat(v.Rows), Clock: slices.Concat(v.Clock), Seen: slices.Concat(v.Seen)}
	for i, r := range out.Rows {
		out.Rows[i].Not = slices.Concat(r.Not)
	}
	return out
}

// reversed returns a view with all its lists in reverse order.
func reversed(v api.View) api.View {
	out := deep(v)
	slices.Reverse(out.Members)
	slices.Reverse(out.Floors)
	slices.Reverse(out.Rows)
	slices.Reverse(out.Clock)
	slices.Reverse(out.Seen)
	for _, r := range out.Rows {
		slices.Reverse(r.Not)
	}
	return out
}

// twice returns a view with all its lists twice.
func twice(v api.View) api.View {
	out := deep(v)
	for i, r := range out.Rows {
		out.Rows[i].Not = slices.Concat(r.Not, r.Not)
	}
	return api.View{
		Members: slices.Concat(out.Members, out.Members),
		Floors:  slices.Concat(out.Floors, out.Floors),
		Rows:    slices.Concat(out.Rows, deep(out).Rows),
		Clock:   slices.Concat(out.Clock, out.Clock),
		Seen:    slices.Concat(out.Seen, out.Seen),
	}
}

// anyViews are views most of which are not valid.
func anyViews(seed draw) []api.View {
	var all []api.View
	for n := range 30 {
		of := pick(&seed, 9, anyIDs())
		if n%2 == 0 {
			of = ids(id(1, 1), id(1, 2), id(2, 1), id(3, 5), id(0, 1), id(13, 1))
		}
		numbers := append(anyNumbers(), 1, 2, 3, 1, 2, 3)
		v := api.View{Floors: pick(&seed, seed.below(n+1), of), Seen: pick(&seed, seed.below(n+1), of)}
		for range seed.below(n + 1) {
			x, no := of[seed.below(len(of))], numbers[seed.below(len(numbers))]
			v.Members = append(v.Members, api.Member{ID: x, Status: uint8(seed.below(10)), No: no})
			v.Rows = append(v.Rows, row(of[seed.below(len(of))], no, pick(&seed, seed.below(5), of)...))
			v.Clock = append(v.Clock, api.Tick{Of: of[seed.below(len(of))], N: no})
		}
		all = append(all, v)
	}
	for _, v := range []api.View{full(0), full(12), full(64), drawn(seed)[4], drawn(seed)[20]} {
		all = append(all, v, reversed(v), twice(v))
	}
	return append(all, full(65), full(200))
}
