package outbox_test

import (
	"slices"
	"testing"

	"covey/api"
)

// What no list holds.
var (
	markID     = id(-7, -7)
	markMember = api.Member{ID: markID, Status: 77, No: -7}
	markTick   = api.Tick{Of: markID, N: -7}
	markRow    = api.Row{Of: markID, Version: -7, Not: []api.ID{markID}}
)

// roomy returns a list with room for three more behind it, in which marks stand.
func roomy[T any](l []T, mark T) []T {
	return append(slices.Clone(l), mark, mark, mark)[:len(l)]
}

// spared returns a frame in new memory, with spare room behind all lists.
func spared(f api.Frame) api.Frame {
	f = deep(f)
	v := &f.View
	for i, r := range v.Rows {
		v.Rows[i].Not = roomy(r.Not, markID)
	}
	*v = api.View{Members: roomy(v.Members, markMember), Floors: roomy(v.Floors, markID), Rows: roomy(v.Rows, markRow), Clock: roomy(v.Clock, markTick), Seen: roomy(v.Seen, markID)}
	return f
}

// beyond returns the lists of a frame with spare room, with that room in them.
func beyond(f api.Frame) api.Frame {
	v := f.View
	return deep(api.Frame{View: api.View{
		Members: v.Members[:len(v.Members)+3],
		Floors:  v.Floors[:len(v.Floors)+3],
		Rows:    v.Rows[:len(v.Rows)+3],
		Clock:   v.Clock[:len(v.Clock)+3],
		Seen:    v.Seen[:len(v.Seen)+3],
	}})
}

// untouched reports whether a frame with spare room is what it was, that room included.
func untouched(f, was api.Frame) bool {
	for _, r := range f.View.Rows {
		if !slices.Equal(r.Not[len(r.Not):len(r.Not)+3], []api.ID{markID, markID, markID}) {
			return false
		}
	}
	return equal(f, was) && equal(beyond(f), beyond(spared(was)))
}

// overwrite overwrites a list, and the room behind it.
func overwrite[T any](l []T, mark T) {
	for i := range l[:cap(l)] {
		l[:cap(l)][i] = mark
	}
}

// spoil overwrites all lists of a frame, one by one; none may change what is left of the others.
func spoil(t *testing.T, f api.Frame) {
	t.Helper()
	want := deep(f)
	hold := func(list string) {
		t.Helper()
		if !equal(f, want) {
			t.Fatalf("with %s something else of %v changed, to %v", list, want, f)
		}
	}
	v, w := &f.View, &want.View
	for i := range v.Rows {
		drop(&v.Rows[i].Not, &w.Rows[i].Not, markID)
		hold("a row")
	}
	drop(&v.Members, &w.Members, markMember)
	hold("members")
	drop(&v.Floors, &w.Floors, markID)
	hold("floors")
	drop(&v.Rows, &w.Rows, markRow)
	hold("rows")
	drop(&v.Clock, &w.Clock, markTick)
	hold("the clock")
	drop(&v.Seen, &w.Seen, markID)
	hold("Seen")
}

// drop overwrites a list, and leaves it out of its frame, and of what that should be.
func drop[T any](l, want *[]T, mark T) {
	overwrite(*l, mark)
	*l, *want = nil, nil
}

// kept holds a result as it is now; the answer asks whether it still is so.
func kept(t *testing.T, l ...api.Frame) func(what string) {
	want := make([]api.Frame, len(l))
	for i, f := range l {
		want[i] = deep(f)
	}
	return func(what string) {
		t.Helper()
		if !slices.EqualFunc(l, want, equal) {
			t.Fatalf("%s: %v became %v", what, want, l)
		}
	}
}

// crowded are full boxes of several sizes, of which the next frame displaces one, or is lost itself.
func crowded(t *testing.T) []*both {
	t.Helper()
	var l []*both
	for _, kinds := range [][]uint8{{gossip}, {beat}, {beat, status}, {status, beat}, {beat, gossip, reply}, {beat, 7, reply}, {gossip, status, gossip, gossip}} {
		b := fresh(t, len(kinds))
		for i, kind := range kinds {
			b.put(t, full(kind, i))
		}
		l = append(l, b)
	}
	return l
}

// P13.2: a frame that is put stays as it is, the room behind its lists included, whether it waits, displaces another one, or is lost.
func TestPutLeavesItsFrame(t *testing.T) {
	for _, b := range append(crowded(t), fresh(t, 5), filled(t, 5, beat)) {
		for n, f := range append(frames(gossip, 40), frames(beat, 50)...) {
			x := spared(f)
			want := deep(x)
			b.put(t, x)
			b.look(t)
			if !untouched(x, want) {
				t.Fatalf("number %d: %v became %v", n, want, x)
			}
			b.take(t)
			b.clear()
			if !untouched(x, want) {
				t.Fatalf("number %d: %v became %v later", n, want, x)
			}
			b.put(t, full(beat, n))
		}
	}
}

// P13.2: what is written into a frame behind Put, into whichever of its lists, is not seen in the box.
func TestPutKeepsNothing(t *testing.T) {
	for _, b := range append(crowded(t), fresh(t, 60), filled(t, 60, beat)) {
		for n, f := range append(frames(gossip, 40), frames(beat, 50)...) {
			x := spared(f)
			out, _ := b.put(t, x)
			still := kept(t, out)
			spoil(t, x)
			b.look(t)
			still("what Put returned changed with its argument")
			if n%20 == 19 {
				b.take(t)
			}
		}
		b.drain(t)
	}
}

// P13.2: what is written into a frame that is lost is seen neither in the box nor in the frame that was put.
func TestLostIsNew(t *testing.T) {
	for _, b := range crowded(t) {
		for _, f := range append(frames(gossip, 40), frames(beat, 50)...) {
			x := spared(f)
			want := deep(x)
			out, lost := b.put(t, x)
			if !lost {
				t.Fatal("none is lost")
			}
			spoil(t, out)
			b.look(t)
			if !untouched(x, want) {
				t.Fatalf("%v became %v with what is lost", want, x)
			}
		}
		b.drain(t)
	}
}

// P13.2: what is written into a frame that was taken is not seen in the box, though the same one was put several times; nor in a copy.
func TestTakenIsNew(t *testing.T) {
	for _, f := range append(frames(gossip, 40), frames(beat, 50)...) {
		b := fresh(t, 4)
		for range 4 {
			b.put(t, f)
		}
		want := deep(f)
		l, c := b.box.All(), b.apart()
		still := kept(t, l...)
		for range 4 {
			x, _ := b.take(t)
			spoil(t, x)
			b.look(t)
			c.look(t)
			still("All changed with what is taken")
			if !equal(f, want) {
				t.Fatalf("%v became %v with what is taken", want, f)
			}
		}
	}
}

// P13.2: what is written into what All returned is not seen in the box, nor in another frame of it, nor in what it returns otherwise.
func TestAllIsNew(t *testing.T) {
	for _, f := range append(frames(gossip, 40), frames(beat, 50)...) {
		b := fresh(t, 5)
		for range 3 {
			b.put(t, f)
		}
		b.put(t, full(beat, 60))
		l, other := b.box.All(), b.box.All()
		still := kept(t, other...)
		for i, x := range l {
			after := kept(t, l[i+1:]...)
			spoil(t, x)
			after("a frame of All changed with another one")
			b.look(t)
			still("another All changed")
		}
		overwrite(l, full(77, 7))
		b.look(t)
		still("another All changed")
		b.put(t, full(gossip, 61))
		if f := l[:cap(l)][cap(l)-1]; f.Kind != 77 {
			t.Fatalf("what All returned has %v", f)
		}
		b.drain(t)
		still("All changed with the box")
	}
}

// P13.2: what is written into what a copy answers is not seen in the box, nor the other way about.
func TestCopyIsNew(t *testing.T) {
	spoilAll := func(b *both) {
		for _, f := range b.box.All() {
			spoil(t, f)
		}
		for _, kind := range []uint8{gossip, beat} {
			for range 2 {
				out, _ := b.put(t, full(kind, 80))
				spoil(t, out)
			}
		}
		for range 2 {
			f, _ := b.take(t)
			spoil(t, f)
		}
		b.look(t)
	}
	for _, b := range crowded(t) {
		c := b.apart()
		d := c.apart()
		spoilAll(c)
		b.look(t)
		d.look(t)
		spoilAll(b)
		c.look(t)
		d.look(t)
		spoilAll(d)
		b.look(t)
		c.look(t)
	}
}

// P13.2: what was returned stays as it is, whatever is done to the box later.
func TestResultsStay(t *testing.T) {
	for seed := range draw(30) {
		b := fresh(t, int(seed)%5+1)
		var stills []func(string)
		for n := range 60 {
			c := b.apart()
			stills = append(stills, kept(t, b.box.All()...), kept(t, c.box.All()...))
			out, _ := b.put(t, full(seed.kind(), n))
			stills = append(stills, kept(t, out))
			if seed.below(2) == 0 {
				f, _ := b.take(t)
				stills = append(stills, kept(t, f))
			}
			if seed.below(20) == 0 {
				b.clear()
			}
			c.change(t, &seed, n)
		}
		for _, still := range stills {
			still("a result changed later")
		}
	}
}

// P13.2: lists that are one in the frame that is put are several in what is returned.
func TestOneListTwice(t *testing.T) {
	one := []api.ID{id(1, 1), id(2, 1), id(3, 1)}
	f := api.Frame{Kind: gossip, From: id(1, 1), To: id(2, 1), View: api.View{
		Floors: one,
		Rows:   []api.Row{{Of: id(1, 1), Version: 1, Not: one}, {Of: id(2, 1), Version: 1, Not: one}, {Of: id(3, 1), Version: 1, Not: one[1:]}},
		Seen:   one[:2],
	}}
	for _, kind := range []uint8{gossip, beat} {
		f.Kind = kind
		b := fresh(t, 2)
		b.put(t, f)
		b.put(t, f)
		for _, x := range b.box.All() {
			spoil(t, x)
		}
		out, lost := b.put(t, f)
		if !lost {
			t.Fatal("none is lost")
		}
		spoil(t, out)
		for range 2 {
			x, _ := b.take(t)
			spoil(t, x)
		}
	}
}

// Boxes know nothing of each other.
func TestBoxesApart(t *testing.T) {
	b, c := fresh(t, 2), fresh(t, 2)
	for n := range 6 {
		f := full(pick(new(draw(n)), uint8(gossip), beat), n)
		b.put(t, f)
		c.look(t)
		c.put(t, f)
		b.look(t)
		if n%2 == 1 {
			b.take(t)
			c.look(t)
		}
	}
	b.clear()
	c.look(t)
	c.drain(t)
}
