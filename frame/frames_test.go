package frame_test

import (
	"math"
	"slices"
	"testing"

	"covey/api"
	"covey/frame"
)

// Frames for the tests: what is made entry by entry, and what is drawn from a fixed sequence.

const (
	mostInc    = 1048576
	mostNumber = 1099511627776
)

// a to c are those of whom these tests speak.
var a, b, c = id(1, 1), id(2, 1), id(12, mostInc)

func id(addr, inc int) api.ID { return api.ID{Addr: addr, Inc: inc} }

func ids(l ...api.ID) []api.ID { return l }

func member(x api.ID, status uint8, no int) api.Member {
	return api.Member{ID: x, Status: status, No: no}
}

func row(of api.ID, version int, not ...api.ID) api.Row {
	return api.Row{Of: of, Version: version, Not: not}
}

func tick(of api.ID, n int) api.Tick { return api.Tick{Of: of, N: n} }

// full is a view with members of each status, floors, rows, ticks and Seen, at the limits too.
func full() api.View {
	return api.View{
		Members: []api.Member{
			member(id(1, 2), 3, 1), member(b, 1, 0), member(id(3, 128), 2, 0), member(id(4, 16384), 4, 300),
			member(id(5, 1), 5, 0), member(id(6, 1), 6, mostNumber), member(c, 6, 0),
		},
		Floors: ids(id(1, 1), id(7, mostInc), id(12, mostInc-1)),
		Rows:   []api.Row{row(id(1, 2), 1), row(b, mostNumber, id(1, 2), id(3, 128), c), row(id(3, 7), 128, c)},
		Clock:  []api.Tick{tick(a, 1), tick(id(1, 2), 127), tick(b, 128), tick(c, mostNumber)},
		Seen:   ids(a, id(1, 2), id(9, 500), c),
	}
}

// part is what a Status has of a view.
func part(v api.View) api.View {
	return api.View{Clock: v.Clock, Seen: v.Seen}
}

// ordinary is a valid frame of a Kind, with something in each of its fields.
func ordinary(kind uint8) api.Frame {
	fields := map[uint8]api.Frame{
		1:  {From: a, To: id(2, 0)},
		2:  {From: a, To: b, View: full()},
		3:  {From: a, To: b, View: part(full())},
		4:  {From: b, To: c, View: full()},
		5:  {From: a, To: b, N: 3},
		6:  {From: b, To: a, N: 4000},
		7:  {From: a, To: b, About: b},
		8:  {From: c, To: a, About: id(7, 70000)},
		9:  {From: a, N: 5},
		10: {From: a, N: 3, Token: 300},
		11: {From: a, Token: 70000},
		12: {To: b, N: 5, Token: 7},
		13: {To: c, N: 6},
	}
	f := fields[kind]
	f.Kind = kind
	return f
}

// kinds are all Kinds.
func kinds() []uint8 {
	var l []uint8
	for kind := uint8(1); kind <= 13; kind++ {
		l = append(l, kind)
	}
	return l
}

// every are valid frames of every Kind: with something in each field, and with the least and the greatest ones.
func every() []api.Frame {
	var all []api.Frame
	for _, kind := range kinds() {
		f := ordinary(kind)
		all = append(all, f)
		for _, bend := range bends() {
			if g := bend(deep(f)); mayOf(g) && !equal(f, g) {
				all = append(all, g)
			}
		}
	}
	return all
}

// anyNumbers are the limits, what is beside them, and the ends of all numbers.
func anyNumbers() []int {
	return []int{math.MinInt, -mostNumber, -1, 0, 1, 2, 12, 13, mostInc, mostInc + 1, mostNumber, mostNumber + 1, math.MaxInt}
}

// anyIDs are IDs, most of them invalid, of all pairs of these numbers.
func anyIDs() []api.ID {
	var l []api.ID
	for _, addr := range anyNumbers() {
		for _, inc := range anyNumbers() {
			l = append(l, id(addr, inc))
		}
	}
	return l
}

// bends are changes of one field of a frame, or of one entry of its view. Some results are valid.
func bends() []func(f api.Frame) api.Frame {
	var all []func(f api.Frame) api.Frame
	for _, x := range anyIDs() {
		all = append(all,
			func(f api.Frame) api.Frame { f.From = x; return f },
			func(f api.Frame) api.Frame { f.To = x; return f },
			func(f api.Frame) api.Frame { f.About = x; return f },
		)
	}
	for _, n := range anyNumbers() {
		all = append(all,
			func(f api.Frame) api.Frame { f.N = n; return f },
			func(f api.Frame) api.Frame { f.Token = n; return f },
		)
	}
	for _, bend := range viewBends() {
		all = append(all, func(f api.Frame) api.Frame { f.View = bend(f.View); return f })
	}
	return all
}

// viewBends are changes of one list of a view, whatever it is: other ones, empty ones, longer ones, with one entry that is not valid.
func viewBends() []func(v api.View) api.View {
	var all []func(v api.View) api.View
	for _, l := range [][]api.ID{nil, {}, {a}, {b, a}, {a, a}, {a, b}, {a, id(1, 2)}, {{}}, {id(13, 1)}, {a, id(2, mostInc+1)}, long(63), long(64), long(65), long(300)} {
		all = append(all,
			func(v api.View) api.View { v.Floors = l; return v },
			func(v api.View) api.View { v.Seen = l; return v },
			func(v api.View) api.View { v.Rows = []api.Row{row(id(6, 300000), 9, l...)}; return v },
			func(v api.View) api.View { v.Rows = rowsOf(l); return v },
			func(v api.View) api.View { v.Clock = ticksOf(l); return v },
			func(v api.View) api.View { v.Members = membersOf(l); return v },
		)
	}
	for status := range uint8(10) {
		for _, no := range anyNumbers() {
			all = append(all, func(v api.View) api.View { v.Members = []api.Member{member(c, status, no)}; return v })
		}
	}
	for _, n := range anyNumbers() {
		all = append(all,
			func(v api.View) api.View { v.Rows = []api.Row{row(c, n)}; return v },
			func(v api.View) api.View { v.Clock = []api.Tick{tick(a, n)}; return v },
			func(v api.View) api.View { v.Clock = append(slices.Clone(v.Clock), tick(c, n)); return v },
		)
	}
	return append(all,
		func(v api.View) api.View { return api.View{} },
		func(v api.View) api.View { return part(v) },
		func(v api.View) api.View { v.Clock, v.Seen = nil, nil; return v },
		func(v api.View) api.View {
			return api.View{Members: []api.Member{}, Floors: ids(), Rows: []api.Row{}, Clock: []api.Tick{}, Seen: ids()}
		},
		func(v api.View) api.View { v.Rows = []api.Row{{Of: c, Version: 1, Not: ids()}}; return v },
	)
}

// long returns n IDs in increasing order.
func long(n int) []api.ID {
	var l []api.ID
	for i := range n {
		l = append(l, id(1+i*12/n, 1000+i*997))
	}
	return l
}

func rowsOf(of []api.ID) []api.Row {
	var l []api.Row
	for i, x := range of {
		l = append(l, row(x, i+1))
	}
	return l
}

func ticksOf(of []api.ID) []api.Tick {
	var l []api.Tick
	for i, x := range of {
		l = append(l, tick(x, i+1))
	}
	return l
}

func membersOf(of []api.ID) []api.Member {
	var l []api.Member
	for i, x := range of {
		l = append(l, member(x, 3, i+1))
	}
	return l
}

// sized returns a valid frame that has so many bytes in all.
func sized(t *testing.T, n int) api.Frame {
	t.Helper()
	f := api.Frame{Kind: 4, From: a, To: b}
	left := n - len(summed(bytesOf(f)))
	for of := 100000; left > 0; of++ {
		// A row of an ID with three bytes in its incarnation, a version of one, and entries of four.
		r := row(id(1, of), 1)
		left -= 6
		// Some 60 of them, but so that what is left is none, or enough for another row.
		for inc := 100000; left > 3 && (len(r.Not) < 60 || left < 10); inc++ {
			r.Not = append(r.Not, id(2, inc))
			left -= 4
		}
		if left < 4 {
			// The rest becomes more bytes of the version.
			r.Version = 1 << (7 * left)
			left = 0
		}
		f.View.Rows = append(f.View.Rows, r)
	}
	if got := len(summed(bytesOf(f))); got != n || !mayOf(f) || !fits(f.View) {
		t.Fatalf("no frame of %d bytes, but one of %d, %t", n, got, mayOf(f))
	}
	return f
}

// draw returns the next one of a fixed sequence of numbers.
type draw uint64

func (d *draw) below(n int) int {
	*d = *d*6364136223846793005 + 1442695040888963407
	return int(uint64(*d)>>20) % n
}

// number draws one of any length.
func (d *draw) number(bits int) int {
	return d.below(1 << (1 + d.below(bits)))
}

// ids draws a set of valid IDs that are above some floors.
func (d *draw) ids(floors map[int]int) []api.ID {
	var l []api.ID
	for addr := 1; addr <= 12; addr++ {
		for inc := floors[addr] + 1; d.below(3) == 0 && inc <= mostInc; inc += d.number(16) {
			l = append(l, id(addr, inc))
			inc++
		}
	}
	return l
}

// view draws a valid view.
func (d *draw) view() api.View {
	var v api.View
	floors := map[int]int{}
	for addr := 1; addr <= 12; addr++ {
		if d.below(3) == 0 {
			floors[addr] = 1 + d.number(18)
			v.Floors = append(v.Floors, id(addr, floors[addr]))
		}
		m := member(id(addr, floors[addr]+1+d.number(18)), uint8(1+d.below(6)), d.number(40))
		if validMember(m) {
			v.Members = append(v.Members, m)
		}
	}
	for _, of := range d.ids(floors) {
		not := slices.DeleteFunc(d.ids(floors), func(x api.ID) bool { return x == of })
		v.Rows = append(v.Rows, row(of, 1+d.number(39), not...))
	}
	for _, of := range d.ids(nil) {
		v.Clock = append(v.Clock, tick(of, 1+d.number(39)))
	}
	v.Seen = d.ids(nil)
	return v
}

// frame draws a valid frame of a Kind.
func (d *draw) frame(kind uint8) api.Frame {
	f := ordinary(kind)
	anybody := func() api.ID { return id(1+d.below(12), 1+d.number(20)) }
	if f.From != (api.ID{}) {
		f.From = anybody()
	}
	if f.To != (api.ID{}) {
		f.To = id(1+d.below(12), d.below(2)*d.number(20))
	}
	if f.N != 0 {
		f.N = d.number(40)
	}
	if f.Token != 0 {
		f.Token = d.number(40)
	}
	if f.About != (api.ID{}) {
		f.About = anybody()
	}
	switch kind {
	case 2, 4:
		f.View = d.view()
	case 3:
		f.View = part(d.view())
	}
	return f
}

// drawn are n valid frames of each Kind.
func drawn(seed draw, n int) []api.Frame {
	var all []api.Frame
	for range n {
		for _, kind := range kinds() {
			if f := seed.frame(kind); mayOf(f) {
				all = append(all, f)
			}
		}
	}
	return all
}

// deep returns a frame in new memory.
func deep(f api.Frame) api.Frame {
	v := &f.View
	*v = api.View{Members: slices.Clone(v.Members), Floors: slices.Clone(v.Floors), Rows: slices.Clone(v.Rows), Clock: slices.Clone(v.Clock), Seen: slices.Clone(v.Seen)}
	for i, r := range v.Rows {
		v.Rows[i].Not = slices.Clone(r.Not)
	}
	return f
}

// encoded returns the bytes of a frame that is known to have some.
func encoded(t *testing.T, f api.Frame) string {
	t.Helper()
	s, e := frame.Encode(f)
	if e != api.OK {
		t.Fatalf("Encode(%v): %v", f, e)
	}
	return s
}
