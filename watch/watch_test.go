package watch_test

import (
	"testing"

	"covey/api"
	"covey/watch"
)

// The chapter's example.
func TestExample(t *testing.T) {
	w, e := watch.New(2, 5, 3)
	if e != api.OK {
		t.Fatalf("New: error %d", int(e))
	}
	one, two := id(1, 1), id(2, 1)
	wants(t, "Look(1, 2 at 10)", w.Look(first(1, 2), 10))
	wants(t, "Look(1, 2 at 16)", w.Look(first(1, 2), 16), one, two)
	if !w.Heard(one, 16) {
		t.Error("Heard(1, 16): false")
	}
	wants(t, "Look(1, 2 at 16), 1 heard", w.Look(first(1, 2), 16), two)
	wants(t, "Look(1 at 17)", w.Look(first(1), 17))
	wants(t, "Look(1, 2 at 18)", w.Look(first(1, 2), 18))
}

// P16.1: a new watch is one of nobody.
func TestNew(t *testing.T) {
	for _, c := range [][3]int{
		{1, 1, 1}, {1, 2, 1}, {2, 2, 1}, {2, 5, 3}, {1, mostTime, 1}, {mostTime, mostTime, 1}, {mostTime - 1, mostTime, 1},
		{1, 1, mostTime}, {1, mostTime, mostTime}, {mostTime, mostTime, mostTime}, {1, 1, mostTime - 1}, {7, 7, 7},
	} {
		b := fresh(t, c[0], c[1], c[2])
		wants(t, "Watched of a new one", b.watch.Watched())
		for _, x := range someIDs() {
			b.heard(t, x, 3, 90)
		}
		for _, now := range append(ends(), 5, 500, 50000) {
			wants(t, "Look at nobody", b.look(t, now))
		}
		wants(t, "Watched, nobody was looked at", b.watch.Watched())
	}
}

// P16.1: nobody, one, two, three and more are looked at first: all are watched then, in increasing order, and none is late, whenever that is.
func TestFirstLook(t *testing.T) {
	for _, ids := range parts(someIDs()) {
		for _, now := range append(ends(), 2, 77) {
			b := fresh(t, 1, 3, 2)
			wants(t, "first look", b.look(t, now, ids...))
			wants(t, "Watched", b.watch.Watched(), ids...)
		}
	}
}

// P16.1: from any to any others in a look: some are new, some are left out, some stay; exactly those who are looked at are watched, and only those who stay can be late.
func TestLookAtOthers(t *testing.T) {
	all := parts(first(1, 2, 5, 9))
	for _, before := range all {
		for _, after := range all {
			b := fresh(t, 2, 4, 2)
			b.look(t, 10, before...)
			late := b.look(t, 15, after...)
			wants(t, "late, of all who stay", late, without(after, without(after, before))...)
			wants(t, "Watched", b.watch.Watched(), after...)
			b.at(t, 16, 19, 20)
			for _, x := range first(1, 2, 3, 5, 9) {
				b.heard(t, x, 17)
			}
			b.at(t, 17, 18, 19, 21, 22)
		}
	}
}

// P16.1: one who is looked at first, and never heard, is late when more than max passed, and not a tick before that, whatever min and the window are.
func TestNeverHeard(t *testing.T) {
	for _, c := range []struct{ min, max int }{{1, 1}, {1, 2}, {2, 2}, {3, 8}, {8, 8}, {1, mostTime}, {mostTime - 1, mostTime}, {mostTime, mostTime}} {
		for _, window := range []int{1, 2, 5, mostTime} {
			for _, start := range []int{0, 1, 30, 1 << 39} {
				b := fresh(t, c.min, c.max, window)
				b.look(t, start, first(4)...)
				b.lateFrom(t, id(4, 1), start+c.max+1)
				b.look(t, start+c.max, first(4)...)
				b.lateFrom(t, id(4, 1), start+c.max+1)
				b.look(t, start+3*c.max, first(4)...)
				b.lateFrom(t, id(4, 1), start+c.max+1)
			}
		}
	}
}

// P16.1: when one is late who was heard so often, so many ticks after each other, by bounds and a window; the first gap is that from the first look.
func TestHeardOften(t *testing.T) {
	for _, c := range []struct {
		min, max, window int
		gaps             []int
		limit            int
	}{
		{1, 90, 1, []int{3}, 6}, {1, 90, 1, []int{3, 5}, 10}, {1, 90, 1, []int{60, 1}, 2}, {1, 90, 1, []int{1, 60}, 90},
		{1, 90, 2, []int{2, 3}, 5}, {1, 90, 2, []int{1, 2, 3}, 5}, {1, 90, 2, []int{40, 40, 1, 1}, 2},
		{1, 90, 3, []int{4}, 8}, {1, 90, 3, []int{1, 1, 2}, 3}, {1, 90, 3, []int{9, 1, 1, 2}, 3}, {1, 90, 3, []int{0, 0, 5}, 4},
		{1, 90, mostTime, []int{1, 2, 3, 4, 5, 6, 7, 8, 9, 10}, 11},
		{6, 12, 2, []int{2}, 6}, {6, 12, 2, []int{3}, 6}, {6, 12, 2, []int{4}, 8}, {6, 12, 2, []int{6}, 12}, {6, 12, 2, []int{7}, 12},
		{7, 7, 3, []int{1, 1}, 7}, {7, 7, 3, []int{50}, 7}, {1, 1, 1, []int{9}, 1}, {1, 1, mostTime, []int{0}, 1},
		{1, mostTime, 1, []int{2048}, mostTime}, {1, mostTime, 1, []int{2047}, 4094}, {mostTime, mostTime, mostTime, []int{1}, mostTime},
	} {
		b := fresh(t, c.min, c.max, c.window)
		now := 50
		b.look(t, now, first(2, 3)...)
		for _, gap := range c.gaps {
			now += gap
			b.heard(t, id(3, 1), now)
			b.look(t, now, first(2, 3)...)
		}
		b.lateFrom(t, id(3, 1), now+c.limit+1)
		b.lateFrom(t, id(2, 1), 50+c.max+1)
	}
}

// P16.1: as many gaps as the greatest window may have count, and one more does not.
func TestGreatestWindow(t *testing.T) {
	w, _ := watch.New(1, mostTime, mostTime)
	w.Look(first(6), 0)
	now := 2*mostTime + 1
	for range mostTime {
		w.Heard(id(6, 1), now)
		now++
	}
	now-- // The gaps are one of 2 MaxTime + 1, and MaxTime - 1 of 1: their mean is 3.
	wants(t, "heard MaxTime times, 6 ticks later", w.Look(first(6), now+6))
	wants(t, "heard MaxTime times, 7 ticks later", w.Look(first(6), now+7), id(6, 1))
	w.Heard(id(6, 1), now+1)
	wants(t, "heard once more, 2 ticks later", w.Look(first(6), now+3))
	wants(t, "heard once more, 3 ticks later", w.Look(first(6), now+4), id(6, 1))
}

// P16.1: none, one, and then more and more are late, in increasing order, in whatever order they became so.
func TestManyLate(t *testing.T) {
	b := fresh(t, 1, 20, 2)
	ids := first(1, 2, 3, 4, 5, 6, 7, 8, 9, 10, 11, 12)
	wants(t, "first look", b.look(t, 100, ids...))
	// In this order they are heard last, five ticks after the first look, six, and so on: it is late 10, 12 and so on after that.
	for k, addr := range []int{7, 2, 12, 1, 9, 10} {
		b.heard(t, id(addr, 1), 105+k)
	}
	for _, c := range []struct {
		now  int
		late []int
	}{
		{110, nil}, {115, nil}, {116, []int{7}}, {118, []int{7}}, {119, []int{2, 7}}, {121, []int{2, 3, 4, 5, 6, 7, 8, 11}},
		{122, []int{2, 3, 4, 5, 6, 7, 8, 11, 12}}, {125, []int{1, 2, 3, 4, 5, 6, 7, 8, 11, 12}},
		{128, []int{1, 2, 3, 4, 5, 6, 7, 8, 9, 11, 12}}, {131, []int{1, 2, 3, 4, 5, 6, 7, 8, 9, 10, 11, 12}},
	} {
		wants(t, "late", b.look(t, c.now, ids...), first(c.late...)...)
	}
	wants(t, "late, of those who are left", b.look(t, 132, first(1, 3, 9, 11)...), first(1, 3, 9, 11)...)
}

// P16.1: IDs of one address are others, and so are IDs of one incarnation.
func TestEachID(t *testing.T) {
	ids := []api.ID{id(1, 1), id(1, 2), id(2, 1), id(2, 2)}
	for k, x := range ids {
		b := fresh(t, 1, 5, 2)
		b.look(t, 10, ids...)
		b.heard(t, x, 14)
		wants(t, "late but for one who was heard", b.look(t, 16, ids...), without(ids, ids[k:k+1])...)
		b.look(t, 17, without(ids, ids[k:k+1])...)
		b.heard(t, x, 18)
		wants(t, "late, all who are watched", b.look(t, 18, without(ids, ids[k:k+1])...), without(ids, ids[k:k+1])...)
	}
}

// P16.1: whoever is not watched is not heard: it is not watched by that, and what was heard does not count once it is; so it is with one who is not watched any more.
func TestHeardUnwatched(t *testing.T) {
	b := fresh(t, 1, 6, 3)
	b.heard(t, id(5, 1), 1, 2, 3)
	b.look(t, 3, first(2)...)
	b.heard(t, id(5, 1), 4, 5)
	b.heard(t, api.ID{}, 5)
	b.heard(t, id(2, 2), 5)
	wants(t, "Watched", b.watch.Watched(), id(2, 1))
	b.look(t, 10, first(2, 5)...)
	b.lateFrom(t, id(5, 1), 17)
	b.lateFrom(t, id(2, 1), 10)
	b.heard(t, id(5, 1), 12)
	b.lateFrom(t, id(5, 1), 17)
	b.look(t, 13, first(2)...)
	b.heard(t, id(5, 1), 14)
	b.look(t, 20, first(5)...)
	b.lateFrom(t, id(5, 1), 27)
}

// P16.1: all short runs of looks and of hearing, held against the model, each on a copy of the one before it.
func TestAllShortRuns(t *testing.T) {
	looks := parts(first(1, 2))
	var deeper func(b *both, now, left int)
	deeper = func(b *both, now, left int) {
		b.at(t, now, now+1, now+2, now+3, now+4)
		if left == 0 {
			return
		}
		for _, gap := range []int{-1, 0, 1, 3} {
			for _, ids := range looks {
				next := b.apart()
				next.look(t, now+gap, ids...)
				deeper(next, now+gap, left-1)
			}
			for _, x := range first(1, 2) {
				next := b.apart()
				next.heard(t, x, now+gap)
				deeper(next, now+gap, left-1)
			}
		}
		b.holds(t)
	}
	for _, c := range [][3]int{{1, 1, 1}, {1, 3, 1}, {1, 3, 2}, {2, 3, 2}} {
		b := fresh(t, c[0], c[1], c[2])
		deeper(b, 1, 2)
		b.look(t, 1, first(1, 2)...)
		deeper(b, 1, 3)
	}
}

// P16.1: drawn runs, held against the model in each of their steps.
func TestRuns(t *testing.T) {
	late := 0
	for seed := range draw(200) {
		b := seed.watch(t)
		ids := seed.some(someIDs())
		if len(ids) == 0 {
			ids = first(8)
		}
		now := pick(&seed, 0, 3, 1000, mostNumber-200)
		for range 60 {
			now = b.step(t, &seed, ids, now)
			b.at(t, now, now+b.model.min, now+b.model.max+1)
			late += len(b.model.late(now))
		}
	}
	if late < 500 {
		t.Errorf("only %d times late", late)
	}
}
