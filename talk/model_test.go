package talk_test

import (
	"cmp"
	"slices"
	"testing"

	"covey/api"
	"covey/talk"
	"covey/view"
)

// The chapter's terms in another way than the package has them: what each side lacks of the other one is asked ID by ID, the clock that results from a Gossip is not looked at, and Kinds and errors stand here as numbers. Which views are valid, and what two of them are, joined, is taken from view.

// setOf is the set of the IDs of some lists.
func setOf(lists ...[]api.ID) []api.ID {
	l := slices.Concat(lists...)
	slices.SortFunc(l, func(x, y api.ID) int { return cmp.Or(cmp.Compare(x.Addr, y.Addr), cmp.Compare(x.Inc, y.Inc)) })
	return slices.Compact(l)
}

// lacks reports whether a valid clock says less of somebody than another one.
func lacks(c, other []api.Tick) bool {
	for _, x := range other {
		if !slices.ContainsFunc(c, func(y api.Tick) bool { return y.Of == x.Of && y.N >= x.N }) {
			return true
		}
	}
	return false
}

// toldOf is the valid view of a node that was told something, and the Kind of its answer.
func toldOf(v api.View, me api.ID, f api.Frame) (api.View, uint8, api.Errno) {
	if f.Kind < 3 || f.Kind > 4 || !view.May(f.View) {
		return v, 0, 4
	}
	less, more := lacks(v.Clock, f.View.Clock), lacks(f.View.Clock, v.Clock)
	switch {
	case f.Kind == 4:
		v = view.Tell(v, f.View, me)
	case !less && !more:
		v.Seen = setOf(v.Seen, f.View.Seen, ids(me))
	case less && !more:
		return v, 3, 0
	}
	switch {
	case more:
		return v, 4, 0
	case text(v.Seen) != text(f.View.Seen):
		return v, 3, 0
	}
	return v, 0, 0
}

// checkTold holds what a node knows that was told something, and what it answers, against the model, and returns it.
func checkTold(t *testing.T, v api.View, me api.ID, f api.Frame) (api.View, uint8) {
	t.Helper()
	got, kind, e := talk.Told(v, me, f)
	want, wantKind, wantE := toldOf(v, me, f)
	if e != wantE || kind != wantKind || text(got) != text(want) {
		t.Fatalf("Told(%v, %v, %v): %v, %d, %v, not %v, %d, %v", v, me, f, got, kind, e, want, wantKind, wantE)
	}
	return got, kind
}

// answerOf is the frame of a Kind with a view.
func answerOf(v api.View, me, to api.ID, kind uint8) (api.Frame, bool) {
	switch kind {
	case 3:
		return api.Frame{Kind: 3, From: me, To: to, View: said(v.Clock, v.Seen...)}, true
	case 4:
		return api.Frame{Kind: 4, From: me, To: to, View: v}, true
	}
	return api.Frame{}, false
}

// checkAnswer holds the frame of a Kind against the model, and returns it.
func checkAnswer(t *testing.T, v api.View, me, to api.ID, kind uint8) (api.Frame, bool) {
	t.Helper()
	got, is := talk.Answer(v, me, to, kind)
	if want, wantIs := answerOf(v, me, to, kind); is != wantIs || text(got) != text(want) {
		t.Fatalf("Answer(%v, %v, %v, %d): %v, %t, not %v, %t", v, me, to, kind, got, is, want, wantIs)
	}
	return got, is
}
