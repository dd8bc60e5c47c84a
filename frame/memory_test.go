package frame_test

import (
	"slices"
	"testing"

	"covey/api"
	"covey/frame"
)

// What no list holds.
var (
	markID     = id(-7, -7)
	markMember = api.Member{ID: markID, Status: 77, No: -7}
	markTick   = api.Tick{Of: markID, N: -7}
)

// roomy returns a list with room for three more behind it, in which marks stand.
func roomy[T any](l []T, mark T) []T {
	return append(slices.Clone(l), mark, mark, mark)[:len(l)]
}

// marked reports whether the room behind a list is as it was.
func marked[T comparable](l []T, mark T) bool {
	return slices.Equal(l[len(l):len(l)+3], []T{mark, mark, mark})
}

// spared returns a frame in new memory, with spare room behind all lists.
func spared(f api.Frame) api.Frame {
	f = deep(f)
	v := &f.View
	for i, r := range v.Rows {
		v.Rows[i].Not = roomy(r.Not, markID)
	}
	*v = api.View{Members: roomy(v.Members, markMember), Floors: roomy(v.Floors, markID), Rows: roomy(v.Rows, row(markID, -7, markID)), Clock: roomy(v.Clock, markTick), Seen: roomy(v.Seen, markID)}
	return f
}

// untouched reports whether a frame with spare room is what it was, that room included.
func untouched(f, was api.Frame) bool {
	v := f.View
	if !equal(f, was) || !marked(v.Members, markMember) || !marked(v.Floors, markID) || !marked(v.Clock, markTick) || !marked(v.Seen, markID) {
		return false
	}
	for _, r := range v.Rows {
		if !marked(r.Not, markID) {
			return false
		}
	}
	return !slices.ContainsFunc(v.Rows[len(v.Rows):len(v.Rows)+3], func(r api.Row) bool {
		return r.Of != markID || r.Version != -7 || !slices.Equal(r.Not, ids(markID))
	})
}

// framesInMemory are frames for these tests: valid ones, such with too much in them, and others.
func framesInMemory() []api.Frame {
	all := append(drawn(31, 8), every()...)
	for _, kind := range kinds() {
		for i, bend := range bends() {
			if i%5 == 0 {
				all = append(all, bend(deep(ordinary(kind))))
			}
		}
	}
	return all
}

// Arguments stay as they are, their spare room included, also where both frames are one.
func TestArgumentsAreLeft(t *testing.T) {
	all := framesInMemory()
	for i, f := range all {
		x, y := spared(f), spared(all[(i+1)%len(all)])
		frame.May(x)
		frame.Encode(x)
		frame.Same(x, y)
		frame.Same(y, x)
		frame.Same(x, x)
		if !untouched(x, f) || !untouched(y, all[(i+1)%len(all)]) {
			t.Fatalf("%v became %v, or %v became %v", f, x, all[(i+1)%len(all)], y)
		}
	}
}

// overwrite overwrites a list, and the room behind it.
func overwrite[T any](l []T, mark T) {
	for i := range l[:cap(l)] {
		l[:cap(l)][i] = mark
	}
}

// What is decoded is in memory of its own: no other result, and no other list of it, changes with one of its lists.
func TestResultsAreNew(t *testing.T) {
	for _, f := range append(drawn(32, 30), ordinary(2), ordinary(3), ordinary(4)) {
		s := encoded(t, f)
		one, _ := frame.Decode(s)
		other, _ := frame.Decode(s)
		want := deep(one)
		hold := func(which string) {
			t.Helper()
			if !equal(one, want) || !equal(other, f) || encoded(t, f) != s {
				t.Fatalf("with %s something else of %v changed, to %v", which, want, one)
			}
		}
		v, w := &one.View, &want.View
		for i, r := range v.Rows {
			overwrite(r.Not, markID)
			v.Rows[i].Not, w.Rows[i].Not = nil, nil
			hold("a row")
		}
		overwrite(v.Members, markMember)
		v.Members, w.Members = nil, nil
		hold("members")
		overwrite(v.Floors, markID)
		v.Floors, w.Floors = nil, nil
		hold("floors")
		overwrite(v.Rows, row(markID, -7))
		v.Rows, w.Rows = nil, nil
		hold("rows")
		overwrite(v.Clock, markTick)
		v.Clock, w.Clock = nil, nil
		hold("the clock")
		overwrite(v.Seen, markID)
		v.Seen, w.Seen = nil, nil
		hold("Seen")
	}
}

// The bytes of a frame stay what they are when the frame changes afterwards.
func TestBytesAreNew(t *testing.T) {
	for _, f := range append(drawn(33, 10), every()...) {
		x := spared(f)
		s, e := frame.Encode(x)
		was := string(append([]byte(nil), s...))
		for _, r := range x.View.Rows {
			overwrite(r.Not, markID)
		}
		overwrite(x.View.Members, markMember)
		overwrite(x.View.Floors, markID)
		overwrite(x.View.Clock, markTick)
		overwrite(x.View.Seen, markID)
		if again, f := frame.Encode(f); s != was || again != s || f != e {
			t.Fatalf("% x became % x", was, s)
		}
	}
}

// The same is answered however often, and in whatever order, it is asked: nothing is kept.
func TestNothingIsKept(t *testing.T) {
	all := framesInMemory()
	type answer struct {
		may  bool
		s    string
		e    api.Errno
		same bool
	}
	ask := func(f api.Frame) answer {
		s, e := frame.Encode(f)
		return answer{frame.May(f), s, e, frame.Same(f, ordinary(3))}
	}
	var first []answer
	for _, f := range all {
		first = append(first, ask(f))
	}
	for i := len(all) - 1; i >= 0; i-- {
		frame.Decode(first[i].s[:len(first[i].s)/2])
		if got := ask(all[i]); got != first[i] {
			t.Fatalf("of %v: %v, not %v", all[i], got, first[i])
		}
		if f, e := frame.Decode(first[i].s); first[i].e == api.OK && (e != api.OK || !equal(f, all[i])) {
			t.Fatalf("Decode(% x): %v, %v", first[i].s, f, e)
		}
	}
}

// What is not valid may be anything: each call about it comes back.
func TestAnything(t *testing.T) {
	d := draw(34)
	of, numbers := anyIDs(), anyNumbers()
	pick := func() api.ID { return of[d.below(len(of))] }
	some := func() []api.ID {
		l := make([]api.ID, d.below(6))
		for i := range l {
			l[i] = pick()
		}
		return l
	}
	number := func() int { return numbers[d.below(len(numbers))] }
	for range 20000 {
		f := api.Frame{Kind: uint8(d.below(16)), From: pick(), To: pick(), N: number(), Token: number(), About: pick()}
		if d.below(2) == 0 {
			f = ordinary(uint8(1 + d.below(13)))
		}
		f.View = api.View{Floors: some(), Seen: some()}
		for _, x := range some() {
			f.View.Members = append(f.View.Members, member(x, uint8(d.below(256)), number()))
			f.View.Rows = append(f.View.Rows, row(x, number(), some()...))
			f.View.Clock = append(f.View.Clock, tick(x, number()))
		}
		checkMay(t, f)
		if !frame.Same(f, deep(f)) {
			t.Fatalf("Same(%v) and itself: false", f)
		}
		frame.Same(f, ordinary(4))
		frame.Same(ordinary(3), f)
	}
}
