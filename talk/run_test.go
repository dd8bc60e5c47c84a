package talk_test

import (
	"slices"
	"testing"

	"covey/api"
	"covey/talk"
	"covey/view"
)

// run is what some nodes know, and all that they ever sent to each other.
type run struct {
	t     *testing.T
	d     draw
	nodes []api.ID
	now   map[api.ID]api.View
	had   []api.View // what somebody knew, each once it was changed
	sent  []api.Frame
}

// newRun is a run of a few nodes, of which some are lives of one address.
func newRun(t *testing.T, seed draw, more int) *run {
	return &run{t: t, d: seed, nodes: ids(a, b, c, b2, d, id(1, 2))[:2+more%5], now: map[api.ID]api.View{}, had: []api.View{{}}}
}

// side draws a node.
func (r *run) side() side {
	me := pick(&r.d, r.nodes)
	return side{me, r.now[me]}
}

// becomes lets a node know something else, which it has seen, and which covers what it knew.
func (r *run) becomes(me api.ID, v api.View) {
	r.t.Helper()
	if !view.May(v) || !view.Covers(v, r.now[me]) {
		r.t.Fatalf("%v: %v became %v", me, r.now[me], v)
	}
	r.now[me] = v
	r.had = append(r.had, v)
}

// change lets a node change what it knows.
func (r *run) change(x side) {
	r.t.Helper()
	if r.d.below(3) == 0 {
		r.becomes(x.me, say(r.t, x.v, x.me, picks(&r.d, r.d.below(3), r.nodes)...))
		return
	}
	m := member(pick(&r.d, r.nodes), uint8(1+r.d.below(6)), 0)
	// Not too often, lest nobody be left.
	if r.d.below(12) == 0 {
		m.Status = api.Removed
	}
	if m.Status > api.Weak {
		m.No = 1 + r.d.below(5)
	}
	r.becomes(x.me, put(r.t, x.v, x.me, m))
}

// send lets a node send something to another one, which arrives at any time, any number of times, or never.
func (r *run) send(x side, to api.ID, kind uint8) {
	r.t.Helper()
	if f, is := checkAnswer(r.t, x.v, x.me, to, kind); is {
		r.sent = append(r.sent, f)
	}
}

// hear lets a node be told what was sent at any time, and answer it.
func (r *run) hear(x side, f api.Frame) {
	r.t.Helper()
	v, kind := checkTold(r.t, x.v, x.me, f)
	checkGrowth(r.t, x.v, v, f)
	r.becomes(x.me, v)
	r.send(side{x.me, v}, f.From, kind)
}

// act lets a node do something that is drawn.
func (r *run) act() {
	r.t.Helper()
	switch x := r.side(); {
	case r.d.below(3) == 0:
		r.change(x)
	case r.d.below(3) == 0 || len(r.sent) == 0:
		r.send(x, pick(&r.d, r.nodes), pick(&r.d, []uint8{api.Status, api.Gossip}))
	case r.d.below(2) == 0:
		// What was sent lately tells more.
		r.hear(x, r.sent[len(r.sent)-1-r.d.below(min(4, len(r.sent)))])
	default:
		r.hear(x, pick(&r.d, r.sent))
	}
}

// checkGrowth holds what is known after a frame against P18.2 and P18.5.
func checkGrowth(t *testing.T, before, after api.View, f api.Frame) {
	t.Helper()
	if !view.Covers(after, before) {
		t.Fatalf("%v, told %v: %v", before, f, after)
	}
	if f.Kind == api.Status && text(seenBy(after)) != text(seenBy(before)) {
		t.Fatalf("%v, told a Status, %v: %v", before, f, after)
	}
	if f.Kind == api.Gossip && !view.Covers(after, f.View) {
		t.Fatalf("%v, told a Gossip, %v: %v", before, f, after)
	}
}

// P18.2, P18.5: over many steps, whatever was sent long ago, is lost, arrives again, or at somebody else: what is known after it covers what was known before, and whoever is in Seen of what somebody knew knows all of that.
func TestRuns(t *testing.T) {
	for seed := range draw(60) {
		r := newRun(t, seed, int(seed)%5)
		for range 300 {
			r.act()
		}
		for _, v := range r.had {
			for _, x := range v.Seen {
				if !view.Covers(r.now[x], v) {
					t.Fatalf("%v is in Seen of %v, and knows %v", x, v, r.now[x])
				}
			}
		}
	}
}

// P18.5: each frame of a run arrives at each node at its end.
func TestAllAtTheEnd(t *testing.T) {
	for seed := range draw(10) {
		r := newRun(t, seed, 3)
		for range 150 {
			r.act()
		}
		for _, f := range slices.Clone(r.sent) {
			for _, x := range r.nodes {
				v, _ := checkTold(t, r.now[x], x, f)
				checkGrowth(t, r.now[x], v, f)
			}
		}
	}
}

// P18.5: what a node sent before it changed what it knows changes nothing, as a Status and as a Gossip, for that node and for another one; but whoever is told a Gossip has seen then what it knows.
func TestLate(t *testing.T) {
	old := []api.View{{}}
	v := put(t, api.View{}, a, member(a, api.Up, 1))
	old = append(old, v)
	v = put(t, v, a, member(b, api.Joining, 0))
	old = append(old, v, seenBy(v, a, b))
	v = put(t, seenBy(v, a, b), a, member(b, api.Up, 2))
	old = append(old, v, seenBy(v, a, b))
	v = put(t, seenBy(v, a, b), a, member(b, api.Removed, 0))
	for _, was := range old {
		for _, now := range []api.View{v, seenBy(v, a, c), seenBy(v, a, b, c)} {
			wantTold(t, "a late Status", now, a, status(was), now, api.Gossip)
			wantTold(t, "a late Gossip", now, a, gossip(was), now, api.Gossip)
			wantTold(t, "a late Status, of another one", now, c, status(was), now, api.Gossip)
			wantTold(t, "a late Gossip, of another one", now, c, gossip(was), seenBy(now, setOf(now.Seen, ids(c))...), api.Gossip)
		}
	}
}

// P18.2: what is known after a frame covers what it was, for all of some clocks and Seen, of one who is in them, or not.
func TestGrowth(t *testing.T) {
	seed := draw(3)
	for range 3000 {
		x, y := pick(&seed, []api.View{seed.said(), some(), full(12)}), pick(&seed, []api.View{seed.said(), some(), full(40)})
		if seed.below(2) == 0 {
			y.Clock = x.Clock
		}
		for _, f := range []api.Frame{status(y), gossip(y)} {
			v, _, e := talk.Told(x, pick(&seed, ids(a, b, c)), f)
			if e != api.OK {
				t.Fatal(e)
			}
			checkGrowth(t, x, v, f)
		}
	}
}
