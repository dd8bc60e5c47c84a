package edge_test

import (
	"slices"
	"testing"

	"covey/agree"
	"covey/api"
	"covey/edge"
	"covey/roster"
	"covey/view"
)

// run is what nodes do that go by the table of changes: of each change its Kind is asked.
type run struct {
	t      *testing.T
	d      draw
	now    map[api.ID]api.View
	counts [9]int
}

// step lets a node have another view, and holds its Kind against what it did.
func (r *run) step(me api.ID, after api.View, told *api.View, kind uint8) {
	r.t.Helper()
	before := r.now[me]
	if view.Same(before, after) {
		kind = edge.Still
	}
	s := step{me, before, after, told}
	if got := s.kind(); got != kind {
		r.t.Fatalf("Kind %d, not %d: %v: %v became %v (told: %v)", got, kind, me, before, after, told)
	}
	r.counts[kind]++
	r.now[me] = after
}

// does lets a node replace members.
func (r *run) does(me api.ID, kind uint8, l ...api.Member) {
	r.t.Helper()
	after, e := edge.Does(me, r.now[me], l)
	if e != api.OK {
		r.t.Fatalf("Does(%v, %v, %v): %v", me, r.now[me], l, e)
	}
	r.step(me, after, nil, kind)
}

// hear lets a node receive what another one knows.
func (r *run) hear(me, from api.ID) {
	r.t.Helper()
	told := view.Copy(r.now[from])
	r.step(me, view.Tell(r.now[me], told, me), &told, edge.Heard)
}

// lead lets a node do what the leader does, or some of it.
func (r *run) lead(me api.ID) {
	r.t.Helper()
	v := r.now[me]
	leader, is := agree.Leader(v)
	if !is || leader != me || !agree.Reaching(v) {
		return
	}
	var l []api.Member
	no := roster.Next(v.Members)
	for _, m := range v.Members {
		switch {
		case r.d.below(3) == 0 || !agree.All(v) && m.Status != api.Joining:
			continue
		case !agree.All(v):
			m.Status = api.Weak
		case m.Status == api.Joining || m.Status == api.Weak:
			m.Status, m.No = api.Up, no
			no++
		case m.Status == api.Leaving:
			m.Status = api.Exiting
		case m.Status > api.Leaving:
			m.Status = api.Removed
		}
		l = append(l, m)
	}
	r.does(me, edge.Led, l...)
}

// act lets a node do something that is drawn, and that the table allows.
func (r *run) act(me api.ID, nodes []api.ID) {
	r.t.Helper()
	v := r.now[me]
	own, is := roster.Get(v.Members, me)
	other := pick(&r.d, nodes)
	switch k := r.d.below(16); {
	case k == 0 && len(v.Members)+len(v.Floors) == 0 && me == nodes[0]:
		r.does(me, edge.Began, up(me, 1))
	case k < 3 && (own.Status == api.Weak || own.Status == api.Up):
		newest, _ := roster.At(v.Members, other.Addr)
		if other.Inc > newest.ID.Inc && !roster.Gone(v.Floors, other) {
			r.does(me, edge.Let, member(other, api.Joining))
		}
	case k == 3 && r.d.below(8) == 0 && own.Status == api.Up:
		r.does(me, edge.Left, became(own, api.Leaving))
	case k == 3 && r.d.below(8) == 0 && (own.Status == api.Joining || own.Status == api.Weak):
		r.does(me, edge.Left, became(own, api.Exiting))
	case k == 4 && r.d.below(8) == 0:
		if m, is := roster.Get(v.Members, other); is && m.Status < api.Down {
			r.does(me, edge.Felled, became(m, api.Down))
		}
	case k == 5 && r.d.below(3) == 0 && is:
		// Whoever is Removed would leave the row at once, which then tells less than what was set.
		not := slices.DeleteFunc(some(&r.d, 5, nodes), func(x api.ID) bool { return roster.Gone(v.Floors, x) })
		after, _ := view.Row(v, me, not)
		r.step(me, after, nil, edge.Said)
	case k < 10:
		r.lead(me)
	default:
		r.hear(me, other)
	}
}

// P10.5: whatever nodes do along the edges of the table, under its conditions, is of its Kind, in any order, over many steps; what they receive is Heard, or Still.
func TestRuns(t *testing.T) {
	counts := [9]int{}
	for seed := range draw(60) {
		nodes := ids(a, b, c, id(2, 2), id(3, 2), d, id(2, 3))[:3+seed%5]
		r := &run{t: t, d: seed, now: map[api.ID]api.View{}}
		for range 600 {
			r.act(pick(&r.d, nodes), nodes)
		}
		for kind, n := range r.counts {
			counts[kind] += n
		}
	}
	for kind, n := range counts[1:] {
		if n < 20 {
			t.Errorf("the Kind %d %d times alone", 1+kind, n)
		}
	}
}
