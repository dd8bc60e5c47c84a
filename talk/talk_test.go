package talk_test

import (
	"slices"
	"testing"

	"covey/api"
	"covey/frame"
	"covey/talk"
	"covey/view"
)

// wantTold holds what a node knows that was told something, and the Kind of its answer.
func wantTold(t *testing.T, what string, v api.View, me api.ID, f api.Frame, want api.View, kind uint8) {
	t.Helper()
	got, k, e := talk.Told(v, me, f)
	if e != api.OK || k != kind || text(got) != text(want) {
		t.Errorf("%s: %v, %d, %v, not %v, %d", what, got, k, e, want, kind)
	}
}

// clocks are clocks for the tests: one, one that is behind it, ahead of it, and apart from it.
func clocks() (same, behind, ahead, apart []api.Tick) {
	return []api.Tick{tick(a, 2), tick(b, 1)}, []api.Tick{tick(a, 2)}, []api.Tick{tick(a, 2), tick(b, 1), tick(c, 1)}, []api.Tick{tick(a, 3)}
}

// The chapter's examples.
func TestExamples(t *testing.T) {
	same, behind, _, apart := clocks()
	v := said(same, a)
	wantTold(t, "a Status with the same clock, without the one who receives it", v, a, status(said(same, b)), said(same, a, b), api.Status)
	wantTold(t, "a Status with a clock that is behind", v, a, status(said(behind, b)), v, api.Gossip)
	wantTold(t, "a Gossip with a clock apart", v, a, gossip(said(apart, b)), said([]api.Tick{tick(a, 3), tick(b, 1)}, a), api.Gossip)
}

// P18.1: Part: the clock and Seen, and nothing else.
func TestPart(t *testing.T) {
	v := some()
	for _, x := range []api.View{v, {}, full(64), said(v.Clock), said(nil, v.Seen...), {Members: v.Members, Floors: v.Floors, Rows: v.Rows}} {
		got := talk.Part(x)
		if len(got.Members)+len(got.Floors)+len(got.Rows) > 0 || !slices.Equal(got.Clock, x.Clock) || !slices.Equal(got.Seen, x.Seen) {
			t.Errorf("Part(%v): %v", x, got)
		}
		if again := talk.Part(got); !view.Same(again, got) {
			t.Errorf("Part of a part: %v, not %v", again, got)
		}
	}
}

// P18.1: Answer: a Status has a part of the view, a Gossip all of it; there is none of Kind 0, nor of any other Kind.
func TestAnswer(t *testing.T) {
	for _, v := range []api.View{{}, some(), full(64)} {
		for kind := range 256 {
			f, is := checkAnswer(t, v, a, id(2, 7), uint8(kind))
			if is != (kind == int(api.Status) || kind == int(api.Gossip)) {
				t.Errorf("Answer of the Kind %d: %t", kind, is)
			}
			if is != frame.May(f) {
				t.Errorf("Answer of the Kind %d: %v is valid: %t", kind, f, frame.May(f))
			}
		}
	}
}

// P18.1: Answer: from me to somebody, whoever these are.
func TestAnswerOfAnybody(t *testing.T) {
	for _, me := range anyIDs() {
		for _, to := range anyIDs() {
			for _, kind := range []uint8{api.Status, api.Gossip} {
				if f, is := checkAnswer(t, some(), me, to, kind); !is || f.From != me || f.To != to || f.N != 0 || f.Token != 0 || f.About != (api.ID{}) {
					t.Errorf("Answer from %v to %v: %v", me, to, f)
				}
			}
		}
	}
}

// A Status with the same clock: with the same in Seen, fewer, more, others, and nobody, where the one that is told is in its own Seen, and where it is not.
func TestStatusOfTheSameClock(t *testing.T) {
	for _, c := range []struct {
		own, told, want []api.ID
		kind            uint8
	}{
		{ids(a, b), ids(a, b), ids(a, b), 0},
		{ids(a, b), ids(b), ids(a, b), api.Status},
		{ids(a, b), ids(a), ids(a, b), api.Status},
		{ids(a, b), nil, ids(a, b), api.Status},
		{ids(a), ids(a, b), ids(a, b), 0},
		{ids(a), ids(a, b, c, d), ids(a, b, c, d), 0},
		{ids(a), ids(b, c), ids(a, b, c), api.Status},
		{ids(a, c), ids(a, b), ids(a, b, c), api.Status},
		{ids(a, b2), ids(a, b), ids(a, b, b2), api.Status},
		{ids(a), ids(a), ids(a), 0},
		{ids(a), nil, ids(a), api.Status},
		{nil, ids(a), ids(a), 0},
		{nil, ids(a, b), ids(a, b), 0},
		{nil, nil, ids(a), api.Status},
		{nil, ids(b), ids(a, b), api.Status},
		{ids(b), ids(b), ids(a, b), api.Status},
		{ids(b), ids(a, b), ids(a, b), 0},
		{ids(b, c), ids(a, b), ids(a, b, c), api.Status},
		{ids(b), ids(a), ids(a, b), api.Status},
	} {
		for _, v := range []api.View{some(), full(64), {}} {
			v = seenBy(v, c.own...)
			wantTold(t, text(c), v, a, status(seenBy(v, c.told...)), seenBy(v, c.want...), c.kind)
		}
	}
}

// A Status of another clock changes nothing, whoever is in its Seen, and whether the one that is told is in its own: one that is ahead is answered by a Status, one that is behind, or apart, by a Gossip.
func TestStatusOfAnotherClock(t *testing.T) {
	same, behind, ahead, apart := clocks()
	for _, own := range [][]api.ID{nil, ids(a), ids(b), ids(a, b)} {
		for _, told := range [][]api.ID{nil, ids(a), ids(b), ids(a, b), ids(b2, c)} {
			v := seenBy(some(), own...)
			v.Clock = same
			wantTold(t, "a Status that is behind", v, a, status(said(behind, told...)), v, api.Gossip)
			wantTold(t, "a Status of nothing", v, a, status(said(nil, told...)), v, api.Gossip)
			wantTold(t, "a Status that is ahead", v, a, status(said(ahead, told...)), v, api.Status)
			wantTold(t, "a Status that is apart", v, a, status(said(apart, told...)), v, api.Gossip)
			none := said(nil, own...)
			wantTold(t, "a Status, of one who knows nothing", none, a, status(said(same, told...)), none, api.Status)
		}
	}
}

// Of a Status nothing but its clock and its Seen counts.
func TestStatusWithMore(t *testing.T) {
	v := seenBy(some(), a)
	other := full(12)
	other.Clock, other.Seen = v.Clock, ids(b)
	f := gossip(other)
	f.Kind = api.Status
	wantTold(t, "a Status with members", v, a, f, seenBy(v, a, b), api.Status)
	f.View.Clock = full(12).Clock
	wantTold(t, "a Status with members, apart", v, a, f, v, api.Gossip)
}

// A Gossip: one that is behind, or apart, is answered by a Gossip; of the same clock, or one that is ahead, by a Status, unless it has the one who is told, and all that this one has, in Seen.
func TestGossip(t *testing.T) {
	v := put(t, api.View{}, a, member(a, api.Up, 1))
	w := put(t, v, a, member(b, api.Joining, 0))
	x := say(t, v, b, c)
	both := view.Join(w, x)
	wantTold(t, "what is known", w, a, gossip(w), w, 0)
	wantTold(t, "what is known, and somebody has seen", w, a, gossip(seenBy(w, a, b)), seenBy(w, a, b), 0)
	wantTold(t, "what is known, and I have not seen", w, a, gossip(seenBy(w, b)), seenBy(w, a, b), api.Status)
	wantTold(t, "what is known, and others have seen", seenBy(w, a, c), a, gossip(seenBy(w, a, b)), seenBy(w, a, b, c), api.Status)
	wantTold(t, "what was known", w, a, gossip(v), w, api.Gossip)
	wantTold(t, "what was known, and I have seen", w, a, gossip(seenBy(v, a, b)), w, api.Gossip)
	wantTold(t, "what was known, and I had not seen", seenBy(w, b), a, gossip(v), seenBy(w, a, b), api.Gossip)
	wantTold(t, "what is new", v, b, gossip(w), seenBy(w, a, b), api.Status)
	wantTold(t, "what is new, and I have seen", v, b, gossip(seenBy(w, a, b)), seenBy(w, a, b), 0)
	wantTold(t, "all", api.View{}, b, gossip(w), seenBy(w, a, b), api.Status)
	wantTold(t, "nothing", w, a, gossip(api.View{}), w, api.Gossip)
	wantTold(t, "nothing, of one who knows nothing", api.View{}, a, gossip(api.View{}), said(nil, a), api.Status)
	wantTold(t, "nothing, that I have seen", api.View{}, a, gossip(said(nil, a)), said(nil, a), 0)
	wantTold(t, "what is apart", w, a, gossip(x), seenBy(both, a), api.Gossip)
	wantTold(t, "what is apart, and I have seen", x, b, gossip(seenBy(w, a, b)), seenBy(both, b), api.Gossip)
}

// What is told in a frame is its view alone: from whom it is, and to whom, is not asked.
func TestToldOfAnybody(t *testing.T) {
	same, _, ahead, _ := clocks()
	v := said(same, a)
	for _, from := range anyIDs() {
		for _, to := range anyIDs() {
			for _, f := range []api.Frame{status(said(same, b)), status(said(ahead, b)), gossip(said(same, b)), gossip(said(ahead, b))} {
				want, kind, _ := talk.Told(v, a, f)
				f.From, f.To = from, to
				wantTold(t, "a frame of anybody", v, a, f, want, kind)
			}
		}
	}
}

// All of few clocks and Seen, against the chapter's words.
func TestToldOfFewClocks(t *testing.T) {
	var all []api.View
	for n := range 81 {
		v := said(nil)
		for k, x := range ids(a, b2, c, d) {
			if of := n / []int{1, 3, 9, 27}[k] % 3; of > 0 {
				v.Clock = append(v.Clock, tick(x, of))
			}
		}
		all = append(all, seenBy(v, [][]api.ID{nil, ids(a), ids(b), ids(a, b)}[n%4]...))
	}
	for _, v := range all {
		for _, w := range all {
			checkTold(t, v, a, status(w))
			checkTold(t, v, a, gossip(w))
		}
	}
}

// Drawn clocks and Seen, against the chapter's words; each answer often.
func TestToldDrawn(t *testing.T) {
	seed := draw(1)
	count := map[uint8]map[uint8]int{api.Status: {}, api.Gossip: {}}
	for range 20000 {
		me := pick(&seed, ids(a, b, b2, c, d))
		v, w := seed.said(), seed.said()
		if seed.below(3) == 0 {
			w.Clock = v.Clock
		}
		for kind, f := range map[uint8]api.Frame{api.Status: status(w), api.Gossip: gossip(w)} {
			_, answer := checkTold(t, v, me, f)
			count[kind][answer]++
		}
	}
	for kind, answers := range count {
		for _, answer := range []uint8{0, api.Status, api.Gossip} {
			if answers[answer] < 500 {
				t.Errorf("the Kind %d was answered by %d only %d times", kind, answer, answers[answer])
			}
		}
	}
}
