package view_test

import (
	"slices"
	"testing"

	"covey/api"
	"covey/view"
)

// P8.3: valid views joined, either way, associated either way, or with themselves, give the same, except for Seen.
func TestJoinLaws(t *testing.T) {
	all := drawn(11)
	all = append(all[:60], all[90:110]...)
	for _, a := range all {
		if once := view.Join(a, a); !view.Same(once, a) {
			t.Fatalf("Join of %v with itself: %v", a, once)
		}
		for _, b := range all {
			ab := view.Join(a, b)
			if ba := view.Join(b, a); !view.Same(ab, ba) {
				t.Fatalf("Join of %v and %v: %v, the other way %v", a, b, ab, ba)
			}
			if again := view.Join(ab, a); !view.Same(view.Join(again, b), view.Join(ab, b)) || !view.Core(again, ab) {
				t.Fatalf("Join of %v and %v: %v, again %v", a, b, ab, again)
			}
			for _, c := range all[:24] {
				if x, y := view.Join(ab, c), view.Join(a, view.Join(b, c)); !view.Core(x, y) {
					t.Fatalf("Join of %v, %v and %v: %v, or %v", a, b, c, x, y)
				}
			}
		}
	}
}

// P8.3: many valid views joined in drawn orders, some of them several times, give what they say together, and that covers all of them.
func TestJoinOfMany(t *testing.T) {
	d := draw(12)
	valid := drawn(13)
	for range 150 {
		of := pick(&d, 1+d.below(6), valid)
		want := joinOf(of...)
		if !mayOf(want) {
			t.Fatalf("%v together are not valid", of)
		}
		all := append(slices.Clone(of), pick(&d, d.below(4), of)...)
		for range 10 {
			shuffle(&d, all)
			var got api.View
			for _, v := range all {
				got = view.Join(got, v)
			}
			if !equalCore(got, want) || !view.Core(got, want) {
				t.Fatalf("Join of %v: %v, not %v", all, got, want)
			}
			for _, v := range all {
				if !view.Covers(got, v) {
					t.Fatalf("Join of %v: %v does not cover %v", all, got, v)
				}
			}
		}
	}
}

// P8.3: a Join of valid views is valid, and covers both, if it has not too many rows and counts.
func TestJoinIsValidAndCovers(t *testing.T) {
	all := append(drawn(14), some(), full(12), full(64), full(40))
	tooMany := 0
	for _, a := range all {
		for _, b := range all {
			got := view.Join(a, b)
			if len(got.Rows) > 64 || len(got.Clock) > 64 {
				tooMany++
				continue
			}
			if !view.May(got) || !view.Covers(got, a) || !view.Covers(got, b) {
				t.Fatalf("Join of %v and %v: %v is not valid, or does not cover both", a, b, got)
			}
		}
	}
	if tooMany == 0 || tooMany > len(all)*len(all)/10 {
		t.Errorf("%d of %d had too many", tooMany, len(all)*len(all))
	}
}

// P8.3: covering is an order: each view covers itself, and whatever those cover that it covers; two that cover each other are the same, except for Seen.
func TestCoveringIsAnOrder(t *testing.T) {
	some := drawn(15)[:24]
	all := slices.Clone(some)
	for _, a := range some {
		for _, b := range some[:6] {
			all = append(all, view.Join(a, b))
		}
	}
	for _, a := range all {
		if !view.Covers(a, a) {
			t.Fatalf("%v does not cover itself", a)
		}
		for _, b := range all {
			if !view.Covers(a, b) {
				continue
			}
			if view.Covers(b, a) != view.Core(a, b) {
				t.Fatalf("%v and %v cover each other: %t; they are the same: %t", a, b, view.Covers(b, a), view.Core(a, b))
			}
			for _, c := range some {
				if view.Covers(b, c) && !view.Covers(a, c) {
					t.Fatalf("%v covers %v, and that %v", a, b, c)
				}
			}
		}
	}
}

// neverBack returns what of a view goes back in another one; nothing, if nothing does.
func neverBack(from, to api.View) string {
	floors, now := floorsOf(to.Floors), map[api.ID]api.Member{}
	for _, x := range to.Members {
		now[x.ID] = x
	}
	for _, x := range from.Members {
		y, is := now[x.ID]
		switch {
		case is && (y.Status < x.Status || x.No > 0 && (y.No > x.No || y.No < 1)):
			return "a member"
		case is == (x.ID.Inc <= floors[x.ID.Addr]):
			return "one who is a member, and Removed, or neither"
		}
	}
	for _, f := range from.Floors {
		if floors[f.Addr] < f.Inc {
			return "a floor"
		}
	}
	if !saysAll(clockOf(to), clockOf(from)) {
		return "a clock"
	}
	return ""
}

// P8.4: in a view that covers another one no member has a lesser status, or is absent and not Removed, no floor is less, no clock is behind.
func TestNeverBack(t *testing.T) {
	all := drawn(16)
	for _, a := range all {
		for _, b := range all {
			if back := neverBack(b, a); back != "" && view.Covers(a, b) {
				t.Fatalf("%v covers %v: %s went back", a, b, back)
			}
			if back := neverBack(b, view.Join(a, b)); back != "" {
				t.Fatalf("Join of %v and %v: %s went back", a, b, back)
			}
			if back := neverBack(a, view.Tell(a, b, id(1, 1))); back != "" {
				t.Fatalf("Tell of %v and %v: %s went back", a, b, back)
			}
		}
	}
}

// P8.4: a view in which anything goes back, one thing at a time, does not cover what was.
func TestWhatGoesBackDoesNotCover(t *testing.T) {
	for k, back := range []func(v *api.View){
		func(v *api.View) { v.Members[0].Status, v.Members[0].No = api.Joining, 0 },
		func(v *api.View) { v.Members[0].No = 2 },
		func(v *api.View) { v.Members = v.Members[1:] },
		func(v *api.View) { v.Members = nil },
		func(v *api.View) { v.Floors[0].Inc, v.Floors[1].Inc = 1, 8 },
		func(v *api.View) { v.Floors = v.Floors[1:] },
		func(v *api.View) { v.Floors = nil },
		func(v *api.View) { v.Rows[0].Version = 3 },
		func(v *api.View) { v.Rows[0].Not = nil },
		func(v *api.View) { v.Rows = v.Rows[:2] },
		func(v *api.View) { v.Clock[0].N = 2 },
		func(v *api.View) { v.Clock = v.Clock[1:] },
		func(v *api.View) { v.Clock = nil },
	} {
		v, w := some(), some()
		back(&w)
		if !view.May(w) || view.Covers(w, v) || !view.Covers(v, w) {
			t.Errorf("way %d: %v covers %v: %t", k, w, v, view.Covers(w, v))
		}
	}
}
