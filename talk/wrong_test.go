package talk_test

import (
	"testing"

	"covey/api"
	"covey/talk"
	"covey/view"
)

// wantForm holds that something that a node is told is refused, and that it knows what it knew.
func wantForm(t *testing.T, v api.View, me api.ID, f api.Frame) {
	t.Helper()
	if got, kind, e := talk.Told(v, me, f); e != api.ErrForm || kind != 0 || text(got) != text(v) {
		t.Errorf("Told(%v, %v, %v): %v, %d, %v", v, me, f, got, kind, e)
	}
}

// known is what nodes may know, valid or not.
func known() []api.View {
	return append(anyViews(4, 4), seenBy(some(), a), said(nil, a))
}

// P18.1: ErrForm: a frame of each Kind but Status and Gossip, and of no Kind, with any view.
func TestToldOfOtherKinds(t *testing.T) {
	for _, v := range known() {
		for kind := range 256 {
			for _, told := range []api.View{{}, some(), full(64), said(v.Clock, b), full(65)} {
				f := api.Frame{Kind: uint8(kind), From: b, To: a, View: told}
				if f.Kind != api.Status && f.Kind != api.Gossip {
					wantForm(t, v, a, f)
				}
			}
		}
		for _, f := range []api.Frame{
			{},
			{Kind: api.Ask, From: b, To: a},
			{Kind: api.Welcome, From: b, To: a, View: some()},
			{Kind: api.Beat, From: b, To: a, N: 3},
			{Kind: api.Fenced, From: b, To: a, About: b},
			{Kind: api.Grant, To: a, N: 1, Token: 1},
		} {
			wantForm(t, v, a, f)
		}
	}
}

// wrongs are all ways in which chapter 8 names a view as invalid, each of the view some.
func wrongs() []func(v *api.View) {
	return []func(v *api.View){
		func(v *api.View) { v.Members[0].ID.Addr = 0 },
		func(v *api.View) { v.Members[1].ID.Addr = 13 },
		func(v *api.View) { v.Members[1].ID.Inc = 0 },
		func(v *api.View) { v.Members[1].ID.Inc = 1<<20 + 1 },
		func(v *api.View) { v.Members[0].ID.Inc = 1 },
		func(v *api.View) { v.Members[0].Status = 0 },
		func(v *api.View) { v.Members[0].Status = api.Removed },
		func(v *api.View) { v.Members[0].Status = 8 },
		func(v *api.View) { v.Members[0].No = 0 },
		func(v *api.View) { v.Members[0].No = -1 },
		func(v *api.View) { v.Members[0].No = 1<<40 + 1 },
		func(v *api.View) { v.Members[1].No = 1 },
		func(v *api.View) { v.Members[1] = v.Members[0] },
		func(v *api.View) { v.Members[1] = member(id(1, 3), api.Up, 2) },
		func(v *api.View) { v.Members[0], v.Members[1] = v.Members[1], v.Members[0] },
		func(v *api.View) { v.Floors[0].Addr = 0 },
		func(v *api.View) { v.Floors[1].Addr = 13 },
		func(v *api.View) { v.Floors[0].Inc = 0 },
		func(v *api.View) { v.Floors[1].Inc = 1<<20 + 1 },
		func(v *api.View) { v.Floors[1] = v.Floors[0] },
		func(v *api.View) { v.Floors[0] = id(6, 8) },
		func(v *api.View) { v.Floors[0], v.Floors[1] = v.Floors[1], v.Floors[0] },
		func(v *api.View) { v.Floors[0].Inc = 2 },
		func(v *api.View) { v.Floors[0] = id(5, 1) },
		func(v *api.View) { v.Floors[0] = id(4, 1) },
		func(v *api.View) { v.Floors[0] = id(3, 5) },
		func(v *api.View) { v.Rows[0].Of.Addr = 0 },
		func(v *api.View) { v.Rows[2].Of.Inc = 1<<20 + 1 },
		func(v *api.View) { v.Rows[0].Version = 0 },
		func(v *api.View) { v.Rows[2].Version = 1<<40 + 1 },
		func(v *api.View) { v.Rows[1] = v.Rows[0] },
		func(v *api.View) { v.Rows[0], v.Rows[1] = v.Rows[1], v.Rows[0] },
		func(v *api.View) { v.Rows[0].Not[0] = v.Rows[0].Not[1] },
		func(v *api.View) { v.Rows[0].Not[0] = id(4, 2) },
		func(v *api.View) { v.Rows[0].Not[0] = id(0, 1) },
		func(v *api.View) { v.Rows[0].Not[0] = v.Rows[0].Of },
		func(v *api.View) { v.Rows[2].Not[0] = id(1, 1) },
		func(v *api.View) { v.Rows = full(65).Rows },
		func(v *api.View) { v.Clock[0].Of.Addr = 0 },
		func(v *api.View) { v.Clock[2].Of.Inc = 1<<20 + 1 },
		func(v *api.View) { v.Clock[0].N = 0 },
		func(v *api.View) { v.Clock[1].N = -1 },
		func(v *api.View) { v.Clock[2].N = 1<<40 + 1 },
		func(v *api.View) { v.Clock[1] = v.Clock[0] },
		func(v *api.View) { v.Clock[0], v.Clock[1] = v.Clock[1], v.Clock[0] },
		func(v *api.View) { v.Clock = full(65).Clock },
		func(v *api.View) { v.Seen[0] = api.ID{} },
		func(v *api.View) { v.Seen[0] = id(1, 0) },
		func(v *api.View) { v.Seen[2] = id(13, 1) },
		func(v *api.View) { v.Seen[2] = id(5, 1<<20+1) },
		func(v *api.View) { v.Seen[1] = v.Seen[0] },
		func(v *api.View) { v.Seen[0], v.Seen[1] = v.Seen[1], v.Seen[0] },
	}
}

// P18.1: ErrForm: a frame whose view is invalid, in each way, whatever is known; also a Status that is wrong elsewhere than in its clock and its Seen.
func TestToldOfInvalidViews(t *testing.T) {
	for k, wrong := range wrongs() {
		told := some()
		wrong(&told)
		if view.May(told) {
			t.Fatalf("way %d: %v is valid", k, told)
		}
		for _, v := range append(known(), told) {
			for _, f := range []api.Frame{gossip(told), {Kind: api.Status, From: b, To: a, View: told}} {
				wantForm(t, v, a, f)
			}
			// Those parts of it that are wrong by themselves.
			for _, x := range []api.View{{Members: told.Members, Floors: told.Floors}, {Floors: told.Floors, Rows: told.Rows}, said(told.Clock), said(nil, told.Seen...)} {
				if !view.May(x) {
					wantForm(t, v, a, gossip(x))
					wantForm(t, v, a, api.Frame{Kind: api.Status, View: x})
				}
			}
		}
	}
}

// P18.1: what is at its limits is received.
func TestToldAtLimits(t *testing.T) {
	most := said([]api.Tick{tick(a, 1<<40), tick(id(12, 1<<20), 1<<40)}, a, id(12, 1<<20))
	for _, v := range []api.View{{}, some(), full(64), most} {
		for _, told := range []api.View{{}, full(64), most} {
			checkTold(t, v, id(12, 1<<20), status(told))
			checkTold(t, v, id(12, 1<<20), gossip(told))
		}
	}
}

// Wrong inputs: whatever is known, and whoever is told, all calls come back, with no panic, and what is refused changes nothing.
func TestAnyViews(t *testing.T) {
	seed := draw(5)
	all := anyViews(6, 60)
	for _, v := range all {
		talk.Part(v)
		for _, told := range all {
			me, to := pick(&seed, anyIDs()), pick(&seed, anyIDs())
			for kind := range uint8(6) {
				f, is := talk.Answer(told, me, to, kind)
				if !is {
					f = api.Frame{Kind: kind, View: told}
				}
				got, answer, e := talk.Told(v, me, f)
				if e != api.OK && (answer != 0 || text(got) != text(v)) || e == api.OK && !view.May(f.View) {
					t.Fatalf("Told(%v, %v, %v): %v, %d, %v", v, me, f, got, answer, e)
				}
				if e == api.OK && answer != 0 && answer != api.Status && answer != api.Gossip {
					t.Fatalf("Told(%v, %v, %v): the answer %d", v, me, f, answer)
				}
			}
		}
	}
}
