package watch_test

import (
	"slices"
	"testing"

	"covey/api"
)

// lives are runs in which times do not decrease: last holds for each who is watched when it was last heard, or first looked at.
func lives(t *testing.T, holds func(t *testing.T, b *both, last map[api.ID]int, now int, d *draw)) {
	t.Helper()
	for seed := range draw(300) {
		b := seed.watch(t)
		last := map[api.ID]int{}
		now := seed.below(50)
		for range 50 {
			now += max(0, seed.gap())
			if x := pick(&seed, someIDs()...); seed.below(3) > 0 {
				if b.watch.Heard(x, now) {
					last[x] = now
				}
			} else {
				ids := seed.some(someIDs())
				b.watch.Look(ids, now)
				for _, x := range someIDs() {
					if _, was := last[x]; !slices.Contains(ids, x) {
						delete(last, x)
					} else if !was {
						last[x] = now
					}
				}
			}
			holds(t, b, last, now, &seed)
		}
	}
}

// P16.2: whoever was heard, or first looked at, no more than min before now is not late; whoever was neither within max is.
func TestInTime(t *testing.T) {
	between := 0
	lives(t, func(t *testing.T, b *both, last map[api.ID]int, now int, d *draw) {
		low, high := b.model.min, b.model.max
		for _, passed := range []int{0, 1, low, low + 1, high, high + 1, high + d.below(100) + 1} {
			then := now + passed
			late := b.watch.Copy().Look(b.watch.Watched(), then)
			for x, was := range last {
				is := slices.Contains(late, x)
				if is && then-was <= low || !is && then-was > high {
					t.Fatalf("bounds %d and %d: %v, from %d on, late at %d: %t", low, high, x, was, then, is)
				}
				if low < then-was && then-was < high {
					between++
				}
			}
			wants(t, "late, and not watched", without(late, b.watch.Watched()))
		}
	})
	if between < 1000 {
		t.Errorf("only %d times between the bounds", between)
	}
}

// P16.2, by one tick: at min after the last time, and at max, whether it was heard or looked at, with one bound, and with two.
func TestInTimeByOne(t *testing.T) {
	for low := 1; low <= 5; low++ {
		for high := low; high <= 9; high++ {
			for window := 1; window <= 3; window++ {
				b := fresh(t, low, high, window)
				b.look(t, 40, first(1, 2)...)
				b.heard(t, id(2, 1), 41, 41, 41, 41)
				wants(t, "min after it was heard", b.look(t, 41+low, id(2, 1)))
				wants(t, "one more than min after it was heard, each time at once", b.look(t, 42+low, id(2, 1)), id(2, 1))

				b = fresh(t, low, high, window)
				b.look(t, 40, first(1, 2)...)
				b.heard(t, id(2, 1), 140, 240, 340)
				wants(t, "max after it was heard", b.look(t, 340+high, id(2, 1)))
				wants(t, "one more than max after it was heard", b.look(t, 341+high, id(2, 1)), id(2, 1))

				b = fresh(t, low, high, window)
				b.look(t, 40, first(1)...)
				wants(t, "max after the first look", b.look(t, 40+high, first(1)...))
				wants(t, "one more than max after it", b.look(t, 41+high, first(1)...), id(1, 1))
			}
		}
	}
}

// P16.3: whether one is heard, once or often, has no effect on whether others are late, now or later.
func TestIndependence(t *testing.T) {
	for seed := range draw(200) {
		b := seed.watch(t)
		now := seed.below(50)
		for range 25 {
			now = b.step(t, &seed, someIDs(), now)
			x := pick(&seed, someIDs()...)
			w := b.watch.Copy()
			for range 1 + seed.below(3) {
				w.Heard(x, now+seed.gap())
			}
			others, one := b.model.watched(), []api.ID{x}
			wants(t, "Watched", w.Watched(), others...)
			for _, then := range []int{now, now + b.model.min, now + b.model.min + 1, now + b.model.max, now + b.model.max + 1, now + 50} {
				unheard := without(b.watch.Copy().Look(others, then), one)
				wants(t, "others, after one was heard", without(w.Copy().Look(others, then), one), unheard...)
			}
		}
	}
}

// P16.3: those of one address, of the same incarnation, and of both one more.
func TestIndependenceOfNeighbours(t *testing.T) {
	ids := []api.ID{id(3, 2), id(3, 3), id(4, 2), id(4, 3)}
	for _, x := range ids {
		b := fresh(t, 2, 6, 2)
		b.look(t, 0, ids...)
		b.heard(t, x, 1, 3, 4, 5, 6, 7)
		wants(t, "others, in time", b.look(t, 6, ids...))
		wants(t, "others, late", b.look(t, 7, ids...), without(ids, []api.ID{x})...)
	}
}

// P16.3: nor do others matter that are new, or left out: one who stays is late when it is late alone.
func TestAlone(t *testing.T) {
	for seed := range draw(200) {
		b := seed.watch(t)
		one := id(6, 1)
		alone := b.apart()
		now := seed.below(50)
		for range 25 {
			now += seed.gap()
			if seed.below(2) == 0 {
				b.heard(t, one, now)
				alone.heard(t, one, now)
			}
			b.heard(t, pick(&seed, someIDs()...), now+seed.gap())
			ids := append(seed.some(first(1, 2, 3, 4, 5)), one)
			ids = append(ids, seed.some(first(7, 8, 9))...)
			got, want := b.look(t, now, ids...), alone.look(t, now, one)
			if slices.Contains(got, one) != (len(want) > 0) {
				t.Fatalf("of %v late at %d: %v, alone: %v", b.model, now, got, want)
			}
		}
	}
}

// likeNew holds that somebody, of whatever was told before, is at some times late exactly where it is in a watch that never knew it, and looks at it at the same time.
func likeNew(t *testing.T, b *both, x api.ID, now int) {
	t.Helper()
	never := fresh(t, b.model.min, b.model.max, b.model.window)
	for _, w := range []*both{b, never} {
		w.look(t, now, x)
		w.lateFrom(t, x, now+b.model.max+1)
	}
	for _, heard := range []int{now + 2, now + 2, now + 5, now + 14, now + 15} {
		b.heard(t, x, heard)
		never.heard(t, x, heard)
		for then := heard; then < heard+40; then++ {
			wants(t, "like new", b.watch.Copy().Look([]api.ID{x}, then), never.watch.Copy().Look([]api.ID{x}, then)...)
		}
	}
}

// P16.4: one who was omitted in one look, of nobody, or of others, and is looked at again, is like new: late, steadily heard, or both.
func TestForgotten(t *testing.T) {
	pasts := []func(b *both){
		func(b *both) {},
		func(b *both) { b.heard(t, id(3, 1), 11) },
		func(b *both) { b.heard(t, id(3, 1), 11, 12, 13, 14) },
		func(b *both) { b.heard(t, id(3, 1), 40, 70, 71, 90) },
		func(b *both) { b.heard(t, id(3, 1), 60); b.look(t, 95, first(2, 3, 4)...) },
	}
	for _, past := range pasts {
		for _, others := range parts(first(2, 4)) {
			for _, c := range [][3]int{{1, 30, 1}, {1, 30, 3}, {2, 9, 2}, {6, 6, 2}} {
				for _, now := range []int{100, 101, 140} {
					b := fresh(t, c[0], c[1], c[2])
					b.look(t, 10, first(2, 3, 4)...)
					past(b)
					b.look(t, 100, others...)
					likeNew(t, b, id(3, 1), now)
				}
			}
		}
	}
}

// P16.4: omitted again and again, heard while it is not watched, and looked at again at the same time, it is like new each time.
func TestForgottenAgain(t *testing.T) {
	b := fresh(t, 1, 8, 2)
	for now := 0; now < 300; now += 20 {
		b.look(t, now, first(1, 2)...)
		b.heard(t, id(2, 1), now+1, now+1, now+2)
		b.lateFrom(t, id(2, 1), now+4)
		wants(t, "late", b.look(t, now+19, first(1, 2)...), first(1, 2)...)
		b.look(t, now+19, first(1)...)
		b.heard(t, id(2, 1), now+19)
		wants(t, "left out, and looked at again", b.look(t, now+19, first(1, 2)...), id(1, 1))
		b.lateFrom(t, id(2, 1), now+28)
		b.look(t, now+19)
	}
}

// P16.4: one who is left out at once with others, and comes back with some of them; those who stay are as they were.
func TestForgottenTogether(t *testing.T) {
	ids := first(1, 2, 3, 4)
	for _, stay := range parts(ids) {
		for _, back := range parts(ids) {
			b := fresh(t, 1, 10, 2)
			b.look(t, 0, ids...)
			b.look(t, 5, stay...)
			late := b.look(t, 11, back...)
			wants(t, "late who stayed", late, without(stay, without(stay, back))...)
			wants(t, "Watched", b.watch.Watched(), back...)
			wants(t, "late who came back, too", b.look(t, 22, back...), back...)
		}
	}
}

// P16.5: looking again at the same, now, gives the same, however often.
func TestAgain(t *testing.T) {
	late := 0
	for seed := range draw(200) {
		b := seed.watch(t)
		now := seed.below(50)
		for range 25 {
			now = b.step(t, &seed, someIDs(), now)
			ids := seed.some(someIDs())
			got := b.look(t, now, ids...)
			for range 3 {
				wants(t, "again", b.look(t, now, ids...), got...)
			}
			late += len(got)
		}
	}
	if late < 100 {
		t.Errorf("only %d times late", late)
	}
}

// P16.5: one who is heard is not late now, however late it was.
func TestHeardIsNotLate(t *testing.T) {
	late := 0
	for seed := range draw(300) {
		b := seed.watch(t)
		now := seed.below(50)
		for range 25 {
			now = b.step(t, &seed, someIDs(), now)
			ids := append(seed.some(first(1, 2, 3)), id(11, 1<<20))
			now += pick(&seed, 0, b.model.max, b.model.max+1, 3*b.model.max)
			late += len(b.look(t, now, ids...))
			x := pick(&seed, ids...)
			b.heard(t, x, now)
			if got := b.look(t, now, ids...); slices.Contains(got, x) {
				t.Fatalf("of %v heard at %d, late: %v", b.model, now, got)
			}
		}
	}
	if late < 500 {
		t.Errorf("only %d times late", late)
	}
}
