package talk_test

import (
	"slices"
	"testing"

	"covey/api"
	"covey/clock"
	"covey/frame"
	"covey/ident"
	"covey/talk"
	"covey/view"
)

// side is a node with what it knows.
type side struct {
	me api.ID
	v  api.View
}

// exchange lets two nodes send to each other, beginning with a Status of the first one, until nothing is answered, and returns what they know then, and the Kinds of the frames.
func exchange(t *testing.T, x, y side) (side, side, []uint8) {
	t.Helper()
	at := [2]side{x, y}
	var kinds []uint8
	to, kind := 0, api.Status
	for kind != 0 {
		if len(kinds) == 9 {
			t.Fatalf("%v and %v do not come to an end: %v", x, y, kinds)
		}
		kinds = append(kinds, kind)
		f, _ := checkAnswer(t, at[to].v, at[to].me, at[1-to].me, kind)
		to = 1 - to
		at[to].v, kind = checkTold(t, at[to].v, at[to].me, overWire(t, f))
	}
	return at[0], at[1], kinds
}

// overWire is a frame as it arrives.
func overWire(t *testing.T, f api.Frame) api.Frame {
	t.Helper()
	s, e := frame.Encode(f)
	if e != api.OK {
		t.Fatalf("Encode(%v): %v", f, e)
	}
	out, e := frame.Decode(s)
	if e != api.OK {
		t.Fatalf("Decode of %v: %v", f, e)
	}
	return out
}

// checkExchange lets two nodes exchange what they know, and holds it against P18.3; then it holds against P18.4 that they have nothing more to tell. It returns the Kinds of the frames.
func checkExchange(t *testing.T, x, y side) []uint8 {
	t.Helper()
	x2, y2, kinds := exchange(t, x, y)
	if len(kinds) > 5 {
		t.Fatalf("%v and %v: the frames %v", x, y, kinds)
	}
	want := view.Join(x.v, y.v)
	want.Seen = setOf(want.Seen, ids(x.me, y.me))
	if text(x2.v) != text(want) || !view.Same(x2.v, y2.v) || !view.Same(x2.v, want) {
		t.Fatalf("%v and %v: %v and %v, not %v", x, y, x2.v, y2.v, want)
	}
	checkNothingNew(t, x2, y2)
	checkNothingNew(t, y2, x2)
	return kinds
}

// checkNothingNew holds that a Status of one node is not answered by another one, and that nothing changes by it.
func checkNothingNew(t *testing.T, x, y side) {
	t.Helper()
	f, _ := talk.Answer(x.v, x.me, y.me, api.Status)
	if v, kind, e := talk.Told(y.v, y.me, f); e != api.OK || kind != 0 || !view.Same(v, y.v) {
		t.Fatalf("%v told %v: %v, %d, %v", y, f, v, kind, e)
	}
}

// P18.3: which frames there are, for clocks that are the same, behind, ahead and apart.
func TestExchange(t *testing.T) {
	v := put(t, api.View{}, a, member(a, api.Up, 1))
	w := put(t, v, a, member(b, api.Joining, 0))
	x := say(t, seenBy(v, a, b), b, c)
	const s, g = api.Status, api.Gossip
	for _, of := range []struct {
		what string
		x, y api.View
		want []uint8
	}{
		{"nothing", api.View{}, api.View{}, []uint8{s, s, s}},
		{"nothing and something", api.View{}, x, []uint8{s, g, s}},
		{"something and nothing", w, api.View{}, []uint8{s, s, g, s}},
		{"the same, Seen too", seenBy(w, a, b), seenBy(w, a, b), []uint8{s}},
		{"the same, and the second one knows of both", w, seenBy(w, a, b), []uint8{s, s}},
		{"the same, and the first one knows of both", seenBy(w, a, b), w, []uint8{s}},
		{"the same, and each one knows of itself", w, seenBy(w, b), []uint8{s, s}},
		{"the same, and each one knows of another one, too", seenBy(w, a, c), seenBy(w, b, d), []uint8{s, s}},
		{"behind", v, x, []uint8{s, g, s}},
		{"behind, and the second one knows more of who has seen it", v, seenBy(x, a, b), []uint8{s, g}},
		{"ahead", w, seenBy(v, a, b), []uint8{s, s, g, s}},
		{"apart", w, x, []uint8{s, g, g, s}},
	} {
		if got := checkExchange(t, side{a, of.x}, side{b, of.y}); !slices.Equal(got, of.want) {
			t.Errorf("%s: the frames %v, not %v", of.what, got, of.want)
		}
	}
}

// P18.3: five frames, if the first one has not seen yet what it knows alone; and never more, as long as nobody names the other one in Seen without itself.
func TestFiveFrames(t *testing.T) {
	v := put(t, api.View{}, c, member(c, api.Up, 1))
	w := put(t, v, c, member(d, api.Joining, 0))
	if got := checkExchange(t, side{a, w}, side{b, v}); !slices.Equal(got, []uint8{api.Status, api.Status, api.Gossip, api.Status, api.Status}) {
		t.Errorf("the frames %v", got)
	}
	count := map[int]int{}
	for _, x := range []api.View{{}, v, w, say(t, v, a, d), say(t, w, a, d), say(t, v, b, d), say(t, w, b, d)} {
		for _, y := range []api.View{{}, v, w, say(t, v, a, d), say(t, w, a, d), say(t, v, b, d), say(t, w, b, d)} {
			for _, seen := range [][]api.ID{nil, ids(a), ids(a, b), ids(c), ids(a, c), ids(a, b, c)} {
				for _, other := range [][]api.ID{nil, ids(b), ids(a, b), ids(d), ids(b, d), ids(a, b, d)} {
					count[len(checkExchange(t, side{a, seenBy(x, seen...)}, side{b, seenBy(y, other...)}))]++
				}
			}
		}
	}
	for n := 1; n <= 5; n++ {
		if count[n] < 20 {
			t.Errorf("%d frames only %d times: %v", n, count[n], count)
		}
	}
}

// P18.4: whoever knows the same, and is in Seen, as all others are that the sender has there, does not answer a Status; whoever lacks one, or has one more, does.
func TestNothingNew(t *testing.T) {
	seed := draw(2)
	for range 500 {
		me := pick(&seed, ids(a, b, c))
		v := seed.said()
		v.Seen = ident.Put(v.Seen, me)
		for _, x := range []api.View{v, seenBy(some(), v.Seen...), seenBy(full(64), v.Seen...)} {
			checkNothingNew(t, side{d, x}, side{me, x})
			f := status(seenBy(x, ident.Put(v.Seen, d)...))
			wantTold(t, "a Status with one more", x, me, f, seenBy(x, f.View.Seen...), 0)
			wantTold(t, "a Status with one fewer", x, me, status(seenBy(x, ident.Del(v.Seen, me)...)), x, api.Status)
		}
	}
}

// P18.3, P18.4: what two of some nodes know, at any time, whatever was told before that.
func TestExchangeInRuns(t *testing.T) {
	count := map[uint8]int{}
	for seed := range draw(60) {
		r := newRun(t, seed, int(seed)%5)
		for range 150 {
			r.act()
			x, y := r.side(), r.side()
			if x.me != y.me {
				checkExchange(t, x, y)
				count[clock.Compare(x.v.Clock, y.v.Clock)]++
			}
			if r.d.below(12) == 0 && x.me != y.me {
				x, y, _ = exchange(t, x, y)
				r.now[x.me], r.now[y.me] = x.v, y.v
			}
		}
	}
	for how := clock.Same; how <= clock.Apart; how++ {
		if count[how] < 300 {
			t.Errorf("clocks were compared as %d only %d times", how, count[how])
		}
	}
}

// P18.3: nodes of which each two exchange what they know, once in each direction, know the same at the end, which all have seen.
func TestExchangeOfAll(t *testing.T) {
	for seed := range draw(30) {
		r := newRun(t, seed, 3)
		for range 100 {
			r.act()
		}
		var all api.View
		for _, v := range r.now {
			all = view.Join(all, v)
		}
		all.Seen = setOf(r.nodes)
		for range 2 {
			for _, x := range r.nodes {
				for _, y := range r.nodes {
					if x != y {
						p, q, _ := exchange(t, side{x, r.now[x]}, side{y, r.now[y]})
						r.now[x], r.now[y] = p.v, q.v
					}
				}
			}
		}
		for _, x := range r.nodes {
			if !view.Same(r.now[x], all) {
				t.Fatalf("%v knows %v, not %v", x, r.now[x], all)
			}
		}
	}
}
