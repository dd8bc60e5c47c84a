package edge_test

import (
	"slices"
	"testing"

	"covey/agree"
	"covey/api"
	"covey/edge"
	"covey/view"
)

// P10.2: what is drawn, against the model; each Kind, and none, is there often.
func TestDrawn(t *testing.T) {
	counts := [9]int{}
	for _, s := range steps(1, 10000, 4) {
		want := kindOf(s)
		counts[want]++
		if got := s.kind(); got != want {
			t.Fatalf("Kind %d, not %d: %v: %v became %v (told: %v)", got, want, s.me, s.before, s.after, s.told)
		}
	}
	for kind, n := range counts {
		if n < 80 {
			t.Errorf("the Kind %d %d times alone", kind, n)
		}
	}
}

// P10.2, P10.5: from each two members with statuses that may be, whoever has seen it, by each of them and by one who is none: all that they may do is of its Kind, and what the others may do of none, or of theirs.
func TestEachPair(t *testing.T) {
	for n := range 36 {
		v := of(uint8(1+n%6), uint8(1+n/6))
		for _, v.Seen = range [][]api.ID{nil, ids(a), ids(b), ids(a, b)} {
			for _, v.Rows = range [][]api.Row{nil, {row(a, b)}, {row(b, a)}} {
				for _, me := range ids(a, b, c) {
					for _, o := range outcomes(me, v) {
						checkKind(t, "done", step{me, v, o.v, nil}, o.kind)
						for _, other := range ids(a, b, c) {
							if other != me {
								checkKind(t, "another one's", step{other, v, o.v, nil}, 0)
							}
						}
					}
				}
			}
		}
	}
}

// clockOf returns what a valid clock says.
func clockOf(v api.View) map[api.ID]int {
	says := map[api.ID]int{}
	for _, x := range v.Clock {
		says[x.Of] = x.N
	}
	return says
}

// P10.3: after a change of any Kind the view covers what it was; except for Heard only the node's own number in the clock is different.
func TestNeverBack(t *testing.T) {
	counts := [9]int{}
	for _, s := range steps(3, 8000, 5) {
		kind := s.kind()
		if counts[kind]++; kind == 0 {
			continue
		}
		if !view.Covers(s.after, s.before) {
			t.Fatalf("Kind %d: %v became %v", kind, s.before, s.after)
		}
		was, is := clockOf(s.before), clockOf(s.after)
		own := is[s.me] - was[s.me]
		was[s.me], is[s.me] = 0, 0
		others := false
		for x, n := range is {
			others = others || was[x] != n
		}
		if kind != edge.Heard && (others || len(was) != len(is) || own < 0 || (own == 0) != (kind == edge.Still)) {
			t.Fatalf("Kind %d of %v: the clock %v became %v", kind, s.me, s.before.Clock, s.after.Clock)
		}
	}
	for kind, n := range counts {
		if n < 60 {
			t.Errorf("the Kind %d %d times alone", kind, n)
		}
	}
}

// P10.3: a view that does not cover what it was is of no Kind, whatever else it is.
func TestBackIsNone(t *testing.T) {
	back := 0
	for _, s := range steps(4, 4000, 4) {
		s.before, s.after = s.after, s.before
		if !view.Covers(s.after, s.before) {
			back++
			checkKind(t, "back", s, 0)
		}
	}
	if back < 1000 {
		t.Errorf("%d went back alone", back)
	}
}

// leaders tells of an edge that it is the leader's alone.
func leaders(x edge.Turn) bool {
	by := who(x.From.Status, x.To.Status)
	return by == "l" || by == "al"
}

// P10.4: except for Heard each change of a member is an edge; a leader's one is followed by the leader alone, where all agree, or those that are reached.
func TestOnlyEdges(t *testing.T) {
	edges := map[[2]uint8]int{}
	for _, s := range steps(5, 10000, 5) {
		kind := s.kind()
		if kind == 0 || kind == edge.Heard {
			continue
		}
		turns := edge.Turns(s.before, s.after)
		for _, x := range turns {
			edges[[2]uint8{x.From.Status, x.To.Status}]++
			if who(x.From.Status, x.To.Status) == "" {
				t.Fatalf("Kind %d: %v became %v", kind, x.From, x.To)
			}
		}
		// An older life is Removed by whoever was asked: that is not the leader's.
		if !slices.ContainsFunc(turns, leaders) || kind == edge.Let {
			continue
		}
		leader, is := agree.Leader(s.before)
		if !is || leader != s.me || !agree.All(s.before) && !agree.Reaching(s.before) {
			t.Fatalf("Kind %d: %v: %v became %v", kind, s.me, s.before, s.after)
		}
	}
	for from := range uint8(7) {
		for to := uint8(1); to < 8; to++ {
			if n := edges[[2]uint8{from, to}]; (n > 0) != (who(from, to) != "") {
				t.Errorf("from %d to %d: %d times", from, to, n)
			}
		}
	}
}

// P10.6: nobody but itself becomes Leaving; nobody becomes Weak, Up (except at the beginning) or Exiting (except from Joining or Weak) through anybody but the leader.
func TestWho(t *testing.T) {
	counts := [8]int{}
	for _, s := range steps(6, 8000, 5) {
		kind := s.kind()
		if kind == 0 || kind == edge.Heard {
			continue
		}
		leader, _ := agree.Leader(s.before)
		for _, x := range edge.Turns(s.before, s.after) {
			by := leader
			switch {
			case x.To.Status == api.Leaving, x.To.Status == api.Exiting && x.From.Status < api.Up:
				by = x.To.ID
			case x.To.Status == api.Up && len(s.before.Members) == 0:
				by = x.To.ID
			case x.To.Status == api.Joining || x.To.Status > api.Exiting:
				by = s.me
			}
			if counts[x.To.Status]++; by != s.me {
				t.Fatalf("Kind %d: by %v: %v became %v, in %v", kind, s.me, x.From, x.To, s.before)
			}
		}
	}
	for status, n := range counts[1:] {
		if n < 25 {
			t.Errorf("the status %d %d times alone", 1+status, n)
		}
	}
}
