package edge_test

import (
	"fmt"
	"math"
	"slices"
	"testing"

	"covey/api"
	"covey/view"
)

// Views for the tests: what is made entry by entry, and what is drawn from a fixed sequence.

// a to d are those of whom these tests speak; they have the numbers 1 to 4, if they have any.
var a, b, c, d = id(1, 1), id(2, 1), id(3, 1), id(4, 1)

func id(addr, inc int) api.ID { return api.ID{Addr: addr, Inc: inc} }

func ids(l ...api.ID) []api.ID { return l }

func row(of api.ID, not ...api.ID) api.Row { return api.Row{Of: of, Version: 1, Not: not} }

func members(l ...api.Member) []api.Member { return l }

// member returns a member that has its address as its number, if it may have one.
func member(x api.ID, status uint8) api.Member {
	if status < 3 {
		return api.Member{ID: x, Status: status}
	}
	return api.Member{ID: x, Status: status, No: x.Addr}
}

// of returns a view of members at the addresses 1, 2 and so on, each with a status (0: there is none), which all of them have seen.
func of(statuses ...uint8) api.View {
	var v api.View
	for i, status := range statuses {
		if status != 0 {
			x := id(i+1, 1)
			v.Members, v.Seen = append(v.Members, member(x, status)), append(v.Seen, x)
			v.Clock = append(v.Clock, api.Tick{Of: x, N: 10 + i})
		}
	}
	return v
}

// seenBy returns a view that some have seen.
func seenBy(v api.View, l ...api.ID) api.View {
	v.Seen = l
	return v
}

// with returns a view with rows.
func with(v api.View, rows ...api.Row) api.View {
	v.Rows = rows
	return v
}

// above returns a view with floors.
func above(v api.View, floors ...api.ID) api.View {
	v.Floors = floors
	return v
}

// put returns the view of a node that replaces members, one after another.
func put(t *testing.T, v api.View, me api.ID, l ...api.Member) api.View {
	t.Helper()
	for _, x := range l {
		var e api.Errno
		if v, e = view.Put(v, me, x); e != api.OK {
			t.Fatalf("Put(%v, %v, %v): %v", v, me, x, e)
		}
	}
	return v
}

// say returns the view of a node that sets whom it does not reach.
func say(t *testing.T, v api.View, me api.ID, not ...api.ID) api.View {
	t.Helper()
	out, e := view.Row(v, me, not)
	if e != api.OK {
		t.Fatalf("Row(%v, %v, %v): %v", v, me, not, e)
	}
	return out
}

// text tells a view to the letter.
func text(v api.View) string { return fmt.Sprint(v) }

// draw returns the next one of a fixed sequence of numbers.
type draw uint64

func (d *draw) below(n int) int {
	*d = *d*6364136223846793005 + 1442695040888963407
	return int(uint64(*d)>>20) % n
}

// pick draws one thing of a list.
func pick[T any](d *draw, of []T) T { return of[d.below(len(of))] }

// picks draws n things of a list, each any number of times.
func picks[T any](d *draw, n int, of []T) []T {
	l := make([]T, n)
	for i := range l {
		l[i] = pick(d, of)
	}
	return l
}

// some draws some of the things of a list, in their order: one of so many each time.
func some[T any](d *draw, oneOf int, of []T) []T {
	return slices.DeleteFunc(slices.Clone(of), func(T) bool { return d.below(oneOf) > 0 })
}

// valid draws a valid view of some addresses: often all have seen it, and often nobody says anything of others.
func (d *draw) valid(addrs int) api.View {
	var v api.View
	var all []api.ID
	for addr := 1; addr <= addrs; addr++ {
		x := id(addr, 1+d.below(2))
		if x.Inc == 2 && d.below(2) == 0 || d.below(12) == 0 {
			v.Floors = append(v.Floors, id(addr, 1))
			x.Inc = 2
		}
		if d.below(6) == 0 {
			continue
		}
		m := member(x, pick(d, []uint8{1, 1, 2, 3, 3, 3, 4, 4, 5, 6}))
		if m.Status > 4 && d.below(2) == 0 {
			m.No = 0
		}
		v.Members, all = append(v.Members, m), append(all, x)
		v.Clock = append(v.Clock, api.Tick{Of: x, N: 1 + d.below(9)})
	}
	if d.below(2) == 0 {
		for _, x := range some(d, 2, all) {
			not := slices.DeleteFunc(some(d, 3, all), func(y api.ID) bool { return y == x })
			v.Rows = append(v.Rows, api.Row{Of: x, Version: 1 + d.below(3), Not: not})
		}
	}
	v.Seen = all
	if d.below(3) == 0 {
		v.Seen = some(d, 2, all)
	}
	return v
}

// step is what a node made of its view, where it may have received another one.
type step struct {
	me            api.ID
	before, after api.View
	told          *api.View
}

// member draws a member of a view, or one that might be: with any status, and most often a number that it may have.
func (d *draw) member(v api.View, addrs int) api.Member {
	m := api.Member{ID: id(1+d.below(addrs), 1+d.below(3)), Status: uint8(1 + d.below(7))}
	if len(v.Members) > 0 && d.below(3) > 0 {
		was := pick(d, v.Members)
		m.ID, m.No = was.ID, was.No
	}
	if m.Status > 2 && (m.No == 0 || d.below(6) == 0) {
		m.No = 1 + d.below(addrs+1)
	}
	if m.Status < 3 {
		m.No = 0
	}
	return m
}

// after draws what a node, or another one, might make of a view.
func (d *draw) after(v api.View, me api.ID, addrs int) api.View {
	by := me
	if d.below(8) == 0 {
		by = id(1+d.below(addrs), 1)
	}
	out := v
	switch d.below(8) {
	case 0:
		return v
	case 1:
		out, _ = view.Row(v, by, some(d, 3, ids(a, b, c, id(1, 2), id(2, 2))))
	case 2:
		out = d.valid(addrs)
	case 3:
		out = view.Tell(v, d.valid(addrs), by)
	default:
		for range 1 + d.below(2) {
			out, _ = view.Put(out, by, d.member(out, addrs))
		}
	}
	return out
}

// step draws a step: one of what a node may do, or something else.
func (d *draw) step(addrs int) step {
	s := step{before: d.valid(addrs)}
	s.me = id(1+d.below(addrs), 1)
	if len(s.before.Members) > 0 && d.below(6) > 0 {
		s.me = pick(d, s.before.Members).ID
	}
	may := outcomes(s.me, s.before)
	if d.below(2) == 0 && len(may) > 0 {
		s.after = pick(d, may).v
	} else {
		s.after = d.after(s.before, s.me, addrs)
	}
	if d.below(4) == 0 {
		told := pick(d, []api.View{s.before, s.after, d.after(s.before, s.me, addrs)})
		s.told = &told
		if d.below(2) == 0 {
			s.after = view.Tell(s.before, told, s.me)
		}
	}
	return s
}

// steps are drawn steps of views of up to some addresses.
func steps(seed draw, n, addrs int) []step {
	all := make([]step, n)
	for k := range all {
		all[k] = seed.step(1 + k%addrs)
	}
	return all
}

// anyNumbers are limits, what is beside them, and the ends of all numbers.
func anyNumbers() []int {
	return []int{math.MinInt, -1, 0, 1, 2, 12, 13, 1 << 20, 1<<20 + 1, 1<<40 - 1, 1 << 40, 1<<40 + 1, math.MaxInt}
}

// anyIDs are IDs at and beyond their limits.
func anyIDs() []api.ID {
	return ids(id(0, 0), id(1, 0), id(0, 1), id(1, 1), id(1, 2), id(2, 1), id(12, 1048576), id(12, 1048577), id(13, 1), id(-1, 1), id(1, -1),
		id(math.MaxInt, math.MaxInt), id(math.MinInt, math.MinInt), id(math.MinInt, math.MaxInt), id(math.MaxInt, math.MinInt))
}

// anyMember draws a member that need not be valid.
func (d *draw) anyMember(of []api.ID) api.Member {
	return api.Member{ID: pick(d, of), Status: pick(d, []uint8{0, 1, 2, 3, 3, 4, 5, 6, 6, 7, 8, 255}), No: pick(d, anyNumbers())}
}

// anyView draws a view that need not be valid: in no order, with entries twice, with IDs, statuses and numbers that are none.
func (d *draw) anyView(of []api.ID) api.View {
	v := api.View{Floors: picks(d, d.below(4), of), Seen: picks(d, d.below(8), of)}
	for range d.below(9) {
		v.Members = append(v.Members, d.anyMember(of))
	}
	for range d.below(5) {
		v.Rows = append(v.Rows, api.Row{Of: pick(d, of), Version: pick(d, anyNumbers()), Not: picks(d, d.below(4), of)})
	}
	for range d.below(4) {
		v.Clock = append(v.Clock, api.Tick{Of: pick(d, of), N: pick(d, anyNumbers())})
	}
	return v
}

// anyViews are views most of which are not valid.
func anyViews(seed draw, n int) []api.View {
	few := ids(id(2, 1), id(1, 2), id(1, 1), id(3, 5), id(0, 1), id(13, 1))
	all := []api.View{{}}
	for k := range n {
		all = append(all, seed.anyView([][]api.ID{few, anyIDs()}[k%2]))
	}
	return all
}
