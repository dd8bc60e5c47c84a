package view_test

import (
	"math"
	"slices"
	"strconv"
	"strings"
	"testing"

	"covey/api"
	"covey/view"
)

// run is what nodes do: each one changes its view, or receives a view that somebody had.
type run struct {
	t     *testing.T
	d     draw
	nodes []api.ID
	now   map[api.ID]api.View
	had   []api.View
	by    map[string]int // the first view that somebody had with a clock
	again int            // how often a clock came again
}

func newRun(t *testing.T, seed draw, nodes []api.ID) *run {
	r := &run{t: t, d: seed, nodes: nodes, now: map[api.ID]api.View{}, by: map[string]int{}}
	r.hold(api.View{})
	return r
}

// name tells a clock as a text.
func name(c []api.Tick) string {
	var b strings.Builder
	for _, x := range c {
		b.WriteString(strconv.Itoa(x.Of.Addr) + "." + strconv.Itoa(x.Of.Inc) + ":" + strconv.Itoa(x.N) + " ")
	}
	return b.String()
}

// hold notes a view that somebody had, and holds it against the first one with its clock (P8.5).
func (r *run) hold(v api.View) {
	r.t.Helper()
	if !view.May(v) {
		r.t.Fatalf("%v is not valid", v)
	}
	at, is := r.by[name(v.Clock)]
	if !is {
		r.by[name(v.Clock)] = len(r.had)
	} else if r.again++; !view.Core(v, r.had[at]) || !equalCore(v, r.had[at]) {
		r.t.Fatalf("of one clock: %v, and %v", v, r.had[at])
	}
	r.had = append(r.had, deep(v))
}

// step lets a node have another view, and asks who has seen what (P8.4, P8.6).
func (r *run) step(me api.ID, v api.View) {
	r.t.Helper()
	if !view.Covers(v, r.now[me]) || neverBack(r.now[me], v) != "" {
		r.t.Fatalf("%v: %v became %v", me, r.now[me], v)
	}
	r.now[me] = v
	r.hold(v)
	for _, x := range v.Seen {
		if !view.Covers(r.now[x], v) {
			r.t.Fatalf("%v, in Seen of %v, has %v", x, v, r.now[x])
		}
	}
}

// someMember draws a member of which there are views.
func (r *run) someMember() api.Member {
	m := api.Member{ID: r.nodes[r.d.below(len(r.nodes))], Status: uint8(1 + r.d.below(6))}
	// Not too often: else there is soon nobody left.
	if r.d.below(12) == 0 {
		m.Status = 7
	}
	if m.Status > 2 {
		m.No = 1 + r.d.below(5)
	}
	return m
}

// act lets a drawn node do something that is drawn.
func (r *run) act() {
	me := r.nodes[r.d.below(len(r.nodes))]
	v, e := r.now[me], api.OK
	switch r.d.below(6) {
	case 0:
		v, e = view.Put(v, me, r.someMember())
	case 1:
		v, e = view.Row(v, me, pick(&r.d, r.d.below(3), r.nodes))
	case 2:
		v = view.Tell(v, r.had[r.d.below(len(r.had))], me)
	default:
		v = view.Tell(v, r.now[r.nodes[r.d.below(len(r.nodes))]], me)
	}
	if e != api.OK {
		r.t.Fatal(e)
	}
	r.step(me, v)
}

// seenByAll holds all views that somebody had against what those have who have seen them (P8.6), and joins all.
func (r *run) seenByAll() api.View {
	var all api.View
	for _, v := range r.had {
		all = view.Join(all, v)
		for _, x := range v.Seen {
			if !view.Covers(r.now[x], v) {
				r.t.Fatalf("%v, in Seen of %v, has %v at last", x, v, r.now[x])
			}
		}
	}
	return all
}

// P8.5, P8.6: over many steps, in any order, of few nodes and of many, with several lives of an address.
func TestRuns(t *testing.T) {
	again := 0
	for seed := range draw(40) {
		var nodes []api.ID
		for addr := 1; addr <= 2+int(seed)%4; addr++ {
			for inc := 1; inc <= 1+(int(seed)+addr)%3; inc++ {
				nodes = append(nodes, id(addr, inc))
			}
		}
		r := newRun(t, seed, nodes)
		for range 250 {
			r.act()
		}
		all := r.seenByAll()
		again += r.again
		// When all have received all, they have the same, and all have seen it.
		for range 2 {
			for _, x := range nodes {
				all = view.Tell(all, r.now[x], x)
				r.now[x] = all
			}
		}
		if !slices.Equal(all.Seen, nodes) {
			t.Fatalf("%v, and all are %v", all, nodes)
		}
	}
	if again < 1000 {
		t.Errorf("a clock came again %d times alone", again)
	}
}

// P8.5: two nodes that change the same view in the same way have other clocks; joined, they have one again, whoever joins them first.
func TestChangesApart(t *testing.T) {
	r := newRun(t, 1, ids(id(1, 1), id(2, 1), id(3, 1)))
	one, two, three := r.nodes[0], r.nodes[1], r.nodes[2]
	m := member(3, 1, api.Joining, 0)
	a, _ := view.Put(api.View{}, one, m)
	b, _ := view.Put(api.View{}, two, m)
	r.step(one, a)
	r.step(two, b)
	if view.Core(a, b) || view.Covers(a, b) || view.Covers(b, a) {
		t.Fatalf("%v and %v", a, b)
	}
	x, y, z := view.Tell(a, b, one), view.Tell(b, a, two), view.Tell(b, a, three)
	for _, c := range []struct {
		me api.ID
		v  api.View
	}{{one, x}, {two, y}} {
		r.step(c.me, c.v)
		if !view.Core(c.v, z) || !slices.Equal(c.v.Seen, ids(c.me)) {
			t.Errorf("%v has %v", c.me, c.v)
		}
	}
	r.step(three, view.Tell(view.Tell(api.View{}, x, three), y, three))
	if got := r.now[three]; !slices.Equal(got.Seen, r.nodes) {
		t.Errorf("%v has seen what all have seen: %v", three, got)
	}
}

// P8.6: whoever has seen a view is in it only until somebody changes it.
func TestSeenStartsAnew(t *testing.T) {
	one, two := id(1, 1), id(2, 1)
	a, _ := view.Put(api.View{}, one, member(1, 1, api.Up, 1))
	b := view.Tell(api.View{}, a, two)
	a = view.Tell(a, b, one)
	if !slices.Equal(a.Seen, ids(one, two)) || !slices.Equal(b.Seen, a.Seen) {
		t.Fatalf("%v and %v", a, b)
	}
	c, _ := view.Row(a, one, ids(two))
	if !slices.Equal(c.Seen, ids(one)) {
		t.Errorf("Row of %v: %v", a, c)
	}
	if got := view.Tell(c, b, one); !view.Same(got, c) {
		t.Errorf("%v after what was before: %v", c, got)
	}
	if got := view.Tell(b, c, two); !slices.Equal(got.Seen, ids(one, two)) || !view.Core(got, c) {
		t.Errorf("%v told %v: %v", b, c, got)
	}
}

// Wrong inputs: whatever the views are, all calls come back, with no panic, and leave their arguments.
func TestAnyViews(t *testing.T) {
	d := draw(21)
	all := anyViews(22)
	for _, a := range all {
		was := deep(a)
		for _, b := range all {
			me, x := anyIDs()[d.below(225)], anyIDs()[d.below(225)]
			if d.below(2) == 0 {
				me, x = id(1, 1), id(2, 1)
			}
			other := deep(b)
			view.May(a)
			view.Join(a, b)
			view.Same(a, b)
			view.Core(a, b)
			view.Covers(a, b)
			view.Tell(a, b, me)
			if got := view.Copy(a); !equal(got, a) {
				t.Fatalf("Copy(%v): %v", a, got)
			}
			not := append(pick(&d, d.below(3), anyIDs()), x)
			if got, e := view.Put(a, me, api.Member{ID: x, Status: uint8(d.below(10)), No: anyNumbers()[d.below(15)]}); e != api.OK && !equal(got, a) {
				t.Fatalf("Put: %v, and %v became %v", e, a, got)
			}
			if got, e := view.Row(a, me, not); e != api.OK && !equal(got, a) {
				t.Fatalf("Row: %v, and %v became %v", e, a, got)
			}
			if !equal(a, was) || !equal(b, other) {
				t.Fatalf("%v became %v, or %v became %v", was, a, other, b)
			}
		}
	}
}

// Wrong inputs: a great view, all of whose lists are in no order.
func TestGreatViews(t *testing.T) {
	d := draw(23)
	var v api.View
	for range 20000 {
		x := id(1+d.below(14), d.below(1<<21))
		v.Members = append(v.Members, api.Member{ID: x, Status: uint8(d.below(9)), No: d.below(100)})
		v.Floors = append(v.Floors, id(x.Addr, d.below(1000)))
		v.Rows = append(v.Rows, row(x, d.below(9), id(1, d.below(1<<20)), id(d.below(14), d.below(9))))
		v.Clock = append(v.Clock, api.Tick{Of: x, N: d.below(100)})
		v.Seen = append(v.Seen, x)
	}
	w := reversed(v)
	if view.May(v) || view.May(w) {
		t.Error("May of lists in no order: true")
	}
	if view.Same(v, w) || view.Core(v, w) {
		t.Error("lists in another order are the same")
	}
	for _, me := range ids(id(1, 1), id(math.MaxInt, 1)) {
		view.Tell(v, w, me)
		view.Put(v, me, member(2, 1, api.Removed, 0))
		view.Row(v, me, v.Seen)
	}
	view.Covers(v, w)
}
