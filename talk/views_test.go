package talk_test

import (
	"fmt"
	"math"
	"slices"
	"testing"

	"covey/api"
	"covey/view"
)

// Views and frames for the tests: what is made entry by entry, and what is drawn from a fixed sequence.

// a to d are those of whom these tests speak; b2 is the next life of b.
var a, b, c, d, b2 = id(1, 1), id(2, 1), id(3, 1), id(4, 1), id(2, 2)

func id(addr, inc int) api.ID { return api.ID{Addr: addr, Inc: inc} }

func ids(l ...api.ID) []api.ID { return l }

func member(x api.ID, status uint8, no int) api.Member {
	return api.Member{ID: x, Status: status, No: no}
}

func row(of api.ID, version int, not ...api.ID) api.Row {
	return api.Row{Of: of, Version: version, Not: not}
}

func tick(x api.ID, n int) api.Tick { return api.Tick{Of: x, N: n} }

// said is a view with a clock alone, which some have seen.
func said(clock []api.Tick, seen ...api.ID) api.View {
	return api.View{Clock: clock, Seen: seen}
}

// some is a valid view that has something of each part: 1.2 and 3.5 are members, 4.1 and 5.1 are none, 1.1 and 6.9 are Removed.
func some() api.View {
	return api.View{
		Members: []api.Member{member(id(1, 2), api.Up, 1), member(id(3, 5), api.Joining, 0)},
		Floors:  ids(id(1, 1), id(6, 9)),
		Rows:    []api.Row{row(id(1, 2), 4, id(3, 5), id(4, 1)), row(id(4, 1), 1), row(id(5, 1), 2, id(1, 3))},
		Clock:   []api.Tick{tick(id(1, 1), 3), tick(id(1, 2), 1), tick(id(6, 9), 5)},
		Seen:    ids(id(1, 1), id(1, 2), id(5, 1)),
	}
}

// full is a valid view of all addresses with as many rows, ticks, and who have seen it, at most 64.
func full(n int) api.View {
	var v api.View
	for addr := 1; addr <= 12; addr++ {
		v.Members = append(v.Members, member(id(addr, 300), api.Down, addr))
		v.Floors = append(v.Floors, id(addr, 100))
	}
	for i := range n {
		x := id(1+i*12/n, 101+i)
		v.Rows = append(v.Rows, row(x, 1+i, id(12, 301), id(12, 302+i)))
		v.Clock = append(v.Clock, tick(x, 1+i%7))
		v.Seen = append(v.Seen, x)
	}
	return v
}

// status is a Status of a view.
func status(v api.View) api.Frame {
	return api.Frame{Kind: api.Status, From: b, To: a, View: said(v.Clock, v.Seen...)}
}

// gossip is a Gossip of a view.
func gossip(v api.View) api.Frame {
	return api.Frame{Kind: api.Gossip, From: b, To: a, View: v}
}

// seenBy is a view that others have seen.
func seenBy(v api.View, l ...api.ID) api.View {
	v.Seen = l
	return v
}

// put is the view of a node that replaces a member.
func put(t *testing.T, v api.View, me api.ID, m api.Member) api.View {
	t.Helper()
	out, e := view.Put(v, me, m)
	if e != api.OK {
		t.Fatalf("Put(%v, %v, %v): %v", v, me, m, e)
	}
	return out
}

// say is the view of a node that sets whom it does not reach.
func say(t *testing.T, v api.View, me api.ID, not ...api.ID) api.View {
	t.Helper()
	out, e := view.Row(v, me, not)
	if e != api.OK {
		t.Fatalf("Row(%v, %v, %v): %v", v, me, not, e)
	}
	return out
}

// text tells a view, or a frame, to the letter.
func text(x any) string { return fmt.Sprint(x) }

// draw is the next one of a fixed sequence of numbers.
type draw uint64

func (d *draw) below(n int) int {
	*d = *d*6364136223846793005 + 1442695040888963407
	return int(uint64(*d)>>20) % n
}

// pick draws one thing of a list.
func pick[T any](d *draw, of []T) T { return of[d.below(len(of))] }

// picks draws n things of a list, each any number of times.
func picks[T any](d *draw, n int, of []T) []T {
	l := make([]T, n)
	for i := range l {
		l[i] = pick(d, of)
	}
	return l
}

// part draws some of the things of a list, in their order.
func part[T any](d *draw, of []T) []T {
	return slices.DeleteFunc(slices.Clone(of), func(T) bool { return d.below(2) > 0 })
}

// said draws a view with a clock of few numbers, which some of few have seen, so that clocks are often the same, or one is behind another one.
func (d *draw) said() api.View {
	v := said(nil, part(d, ids(a, b, b2, c))...)
	for _, x := range ids(a, b2, c) {
		if n := d.below(3); n > 0 {
			v.Clock = append(v.Clock, tick(x, n))
		}
	}
	return v
}

// anyNumbers are limits, what is beside them, and the ends of all numbers.
func anyNumbers() []int {
	return []int{math.MinInt, -1, 0, 1, 2, 12, 13, 1 << 20, 1<<20 + 1, 1 << 40, 1<<40 + 1, math.MaxInt}
}

// anyIDs are IDs at and beyond their limits, and a few that are valid.
func anyIDs() []api.ID {
	return ids(a, b, c, b2, id(0, 0), id(1, 0), id(0, 1), id(12, 1<<20), id(12, 1<<20+1), id(13, 1), id(-1, 1), id(1, -1),
		id(math.MaxInt, math.MaxInt), id(math.MinInt, math.MinInt), id(math.MinInt, math.MaxInt))
}

// anyViews are views that need not be valid: in no order, with entries twice, with IDs, statuses and numbers that are none; and some that are valid.
func anyViews(seed draw, n int) []api.View {
	all := []api.View{{}, some(), full(64), full(65)}
	for range n {
		v := api.View{Floors: picks(&seed, seed.below(4), anyIDs()), Seen: picks(&seed, seed.below(6), anyIDs())}
		for range seed.below(6) {
			x, no := pick(&seed, anyIDs()), pick(&seed, anyNumbers())
			v.Members = append(v.Members, member(x, uint8(seed.below(10)), no))
			v.Rows = append(v.Rows, row(pick(&seed, anyIDs()), no, picks(&seed, seed.below(4), anyIDs())...))
			v.Clock = append(v.Clock, tick(pick(&seed, anyIDs()), pick(&seed, anyNumbers())))
		}
		all = append(all, v, api.View{Clock: v.Clock, Seen: v.Seen}, seed.said())
	}
	return all
}
