package frame_test

import (
	"slices"
	"testing"

	"covey/api"
	"covey/frame"
)

// checkMay holds that a frame is valid just if the chapter says so (P11.1), and that it is encoded just then, as the chapter says (P11.1, P11.5).
func checkMay(t *testing.T, f api.Frame) {
	t.Helper()
	if got := frame.May(f); got != mayOf(f) {
		t.Fatalf("May(%v): %t", f, got)
	}
	got, e := frame.Encode(f)
	if want, wantE := encodeOf(f); got != want || e != wantE {
		t.Fatalf("Encode(%v): % x, %v, not % x, %v", f, got, e, want, wantE)
	}
}

// P11.1: a frame of each Kind, with something in all its fields, and with nothing but what it must have.
func TestMay(t *testing.T) {
	for _, kind := range kinds() {
		f := ordinary(kind)
		if !frame.May(f) {
			t.Errorf("May(%v): false", f)
		}
		f.N, f.Token, f.View = 0, 0, api.View{}
		if f.To != (api.ID{}) {
			f.To.Inc = 0
		}
		if !frame.May(f) {
			t.Errorf("May(%v): false", f)
		}
	}
}

// P11.1: what is no Kind has no valid frames, whatever fields it has.
func TestNoKind(t *testing.T) {
	for kind := range 256 {
		if 1 <= kind && kind <= 13 {
			continue
		}
		for _, like := range kinds() {
			f := ordinary(like)
			f.Kind = uint8(kind)
			if frame.May(f) {
				t.Fatalf("May(%v): true", f)
			}
			checkMay(t, f)
		}
		if f := (api.Frame{Kind: uint8(kind)}); frame.May(f) {
			t.Fatalf("May(%v): true", f)
		}
	}
}

// P11.1: a frame of each Kind with the fields of each other one: they are valid only if it has all of them, and those that it has besides may be 0, or empty.
func TestFieldsOfOthers(t *testing.T) {
	may := [14][]uint8{1: {1}, 2: {1, 2, 3, 4}, 3: {1, 3}, 4: {1, 2, 3, 4}, 5: {1, 5, 6}, 6: {1, 5, 6}, 7: {7, 8}, 8: {7, 8}, 9: {9}, 10: {9, 10, 11}, 11: {11}, 12: {12, 13}, 13: {13}}
	for _, kind := range kinds() {
		for _, like := range kinds() {
			f := ordinary(like)
			f.Kind = kind
			if want := slices.Contains(may[kind], like); frame.May(f) != want {
				t.Errorf("May(%v): not %t", f, want)
			}
			checkMay(t, f)
		}
	}
}

// P11.1: each field of each Kind, with each of many values: a field that the Kind has must be valid, any other one must be empty.
func TestEachField(t *testing.T) {
	for _, kind := range kinds() {
		valid := 0
		for _, bend := range bends() {
			f := bend(deep(ordinary(kind)))
			checkMay(t, f)
			if frame.May(f) {
				valid++
			}
			g := bend(api.Frame{Kind: kind})
			checkMay(t, g)
		}
		if valid < 3 || valid > len(bends())-100 {
			t.Errorf("Kind %d: %d of %d are valid", kind, valid, len(bends()))
		}
	}
}

// P11.1: two fields at once, so that one that is not valid does not make up for another one.
func TestTwoFields(t *testing.T) {
	var few []func(f api.Frame) api.Frame
	for i, bend := range bends() {
		if i%7 == 0 {
			few = append(few, bend)
		}
	}
	for _, kind := range kinds() {
		for i, one := range few {
			for _, other := range few[i:] {
				checkMay(t, other(one(deep(ordinary(kind)))))
			}
		}
	}
}

// P11.1: an address may be that of whoever is there, other IDs may not; IDs and numbers go up to their limits.
func TestLimits(t *testing.T) {
	for _, x := range []struct {
		f    api.Frame
		want bool
	}{
		{api.Frame{Kind: 1, From: a, To: id(1, 0)}, true},
		{api.Frame{Kind: 1, From: a, To: id(12, 0)}, true},
		{api.Frame{Kind: 1, From: a, To: id(12, mostInc)}, true},
		{api.Frame{Kind: 1, From: c, To: a}, true},
		{api.Frame{Kind: 1, From: a, To: a}, true},
		{api.Frame{Kind: 1, From: id(1, 0), To: b}, false},
		{api.Frame{Kind: 1, From: id(1, mostInc+1), To: b}, false},
		{api.Frame{Kind: 1, From: id(13, 1), To: b}, false},
		{api.Frame{Kind: 1, To: b}, false},
		{api.Frame{Kind: 1, From: a}, false},
		{api.Frame{Kind: 1, From: a, To: id(0, 1)}, false},
		{api.Frame{Kind: 1, From: a, To: id(13, 0)}, false},
		{api.Frame{Kind: 1, From: a, To: id(-1, 0)}, false},
		{api.Frame{Kind: 1, From: a, To: id(2, -1)}, false},
		{api.Frame{Kind: 1, From: a, To: id(2, mostInc+1)}, false},
		{api.Frame{Kind: 7, From: a, To: b, About: c}, true},
		{api.Frame{Kind: 7, From: a, To: b}, false},
		{api.Frame{Kind: 7, From: a, To: b, About: id(2, 0)}, false},
		{api.Frame{Kind: 5, From: a, To: b}, true},
		{api.Frame{Kind: 5, From: a, To: b, N: mostNumber}, true},
		{api.Frame{Kind: 5, From: a, To: b, N: mostNumber + 1}, false},
		{api.Frame{Kind: 5, From: a, To: b, N: -1}, false},
		{api.Frame{Kind: 10, From: a, Token: mostNumber}, true},
		{api.Frame{Kind: 10, From: a, Token: mostNumber + 1}, false},
		{api.Frame{Kind: 10, From: a, Token: -1}, false},
		{api.Frame{Kind: 12, To: id(3, 0)}, true},
		{api.Frame{Kind: 12, From: a, To: b}, false},
		{api.Frame{Kind: 13, To: b, N: 1, Token: 1}, false},
		{api.Frame{Kind: 9, From: a, To: b, N: 1}, false},
		{api.Frame{Kind: 11, From: a, N: 1}, false},
	} {
		if got := frame.May(x.f); got != x.want {
			t.Errorf("May(%v): %t", x.f, got)
		}
		checkMay(t, x.f)
	}
}

// P11.1: a Status has a clock and Seen, and nothing else of a view; both must be valid.
func TestStatus(t *testing.T) {
	v := full()
	for _, x := range []struct {
		v    api.View
		want bool
	}{
		{api.View{}, true},
		{api.View{Clock: v.Clock}, true},
		{api.View{Seen: v.Seen}, true},
		{part(v), true},
		{api.View{Clock: v.Clock, Seen: v.Seen, Members: []api.Member{}, Floors: ids(), Rows: []api.Row{}}, true},
		{v, false},
		{api.View{Members: v.Members[:1]}, false},
		{api.View{Floors: v.Floors[:1]}, false},
		{api.View{Rows: v.Rows[:1]}, false},
		{api.View{Clock: []api.Tick{tick(a, 0)}}, false},
		{api.View{Clock: []api.Tick{tick(b, 1), tick(a, 1)}}, false},
		{api.View{Seen: ids(b, a)}, false},
		{api.View{Seen: ids(id(2, 0))}, false},
	} {
		f := api.Frame{Kind: 3, From: a, To: b, View: x.v}
		if got := frame.May(f); got != x.want {
			t.Errorf("May(%v): %t", f, got)
		}
		checkMay(t, f)
	}
}

// P11.1: drawn frames, with one field changed, with two, and with all fields of the others.
func TestDrawn(t *testing.T) {
	bends := bends()
	d := draw(3)
	for _, f := range drawn(1, 40) {
		checkMay(t, f)
		for range 20 {
			g := bends[d.below(len(bends))](deep(f))
			checkMay(t, g)
			checkMay(t, bends[d.below(len(bends))](g))
		}
	}
}

// P11.1: Same tells each field, and nothing else: not whether an empty list is nil.
func TestSame(t *testing.T) {
	for _, f := range every() {
		if !frame.Same(f, f) || !frame.Same(f, deep(f)) {
			t.Fatalf("Same(%v) and itself: false", f)
		}
	}
	for _, kind := range kinds() {
		f := ordinary(kind)
		for _, bend := range bends() {
			g := bend(deep(f))
			// Of views that are not valid nothing is asked.
			if validView(g.View) && (frame.Same(f, g) != equal(f, g) || frame.Same(g, f) != equal(f, g)) {
				t.Fatalf("Same(%v, %v): not %t", f, g, equal(f, g))
			}
		}
		for _, other := range kinds() {
			g := deep(f)
			g.Kind = other
			if frame.Same(f, g) != (kind == other) {
				t.Errorf("Same of Kinds %d and %d: %t", kind, other, kind != other)
			}
		}
	}
}

// P11.1: Same tells one entry of a view that differs, in each of its numbers.
func TestSameOfEachEntry(t *testing.T) {
	f := ordinary(4)
	for k, differ := range []func(v *api.View, i int) bool{
		func(v *api.View, i int) bool { return i < len(v.Members) && more(&v.Members[i].ID.Addr) },
		func(v *api.View, i int) bool { return i < len(v.Members) && more(&v.Members[i].ID.Inc) },
		func(v *api.View, i int) bool { return i < len(v.Members) && more(&v.Members[i].No) },
		func(v *api.View, i int) bool { return i < len(v.Members) && more(&v.Members[i].Status) },
		func(v *api.View, i int) bool { return i < len(v.Floors) && more(&v.Floors[i].Addr) },
		func(v *api.View, i int) bool { return i < len(v.Floors) && more(&v.Floors[i].Inc) },
		func(v *api.View, i int) bool { return i < len(v.Rows) && more(&v.Rows[i].Of.Inc) },
		func(v *api.View, i int) bool { return i < len(v.Rows) && more(&v.Rows[i].Version) },
		func(v *api.View, i int) bool { return i < len(v.Rows[1].Not) && more(&v.Rows[1].Not[i].Inc) },
		func(v *api.View, i int) bool { return i < len(v.Clock) && more(&v.Clock[i].Of.Inc) },
		func(v *api.View, i int) bool { return i < len(v.Clock) && more(&v.Clock[i].N) },
		func(v *api.View, i int) bool { return i < len(v.Seen) && more(&v.Seen[i].Inc) },
		func(v *api.View, i int) bool { v.Members = v.Members[:i%7]; return i < 7 },
		func(v *api.View, i int) bool { v.Floors = v.Floors[:i%3]; return i < 3 },
		func(v *api.View, i int) bool { v.Rows = v.Rows[:i%3]; return i < 3 },
		func(v *api.View, i int) bool { v.Rows[1].Not = v.Rows[1].Not[:i%3]; return i < 3 },
		func(v *api.View, i int) bool { v.Clock = v.Clock[:i%4]; return i < 4 },
		func(v *api.View, i int) bool { v.Seen = v.Seen[:i%4]; return i < 4 },
	} {
		g := deep(f)
		for i := 0; differ(&g.View, i); i++ {
			if frame.Same(f, g) || frame.Same(g, f) {
				t.Errorf("Same(%v, %v), other in way %d at %d: true", f, g, k, i)
			}
			g = deep(f)
		}
		if g = deep(f); differ(&g.View, 0) && equal(f, g) {
			t.Errorf("way %d makes no other frame", k)
		}
	}
}

// more increments a number.
func more[T uint8 | int](n *T) bool {
	*n++
	return true
}
