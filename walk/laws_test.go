package walk_test

import (
	"slices"
	"testing"

	"covey/api"
	"covey/walk"
)

// P17.4: the next one is a peer, if there are any; if there are none it is nobody, and false.
func TestAPeer(t *testing.T) {
	for c := range chance(300) {
		ids := append(anyIDs()[:3], someIDs()...)
		w := walk.New()
		for range 40 {
			peers := c.mixed(c.some(ids))
			got, is := w.Next(peers, c.draw())
			if is != (len(peers) > 0) || is && !slices.Contains(peers, got) || !is && got != (api.ID{}) {
				t.Fatalf("Next of %v: %v, %t", peers, got, is)
			}
		}
	}
}

// calls makes so many calls with the same peers, and counts how often each one came.
func calls(w *walk.Walk, n int, peers []api.ID, draw func() uint32) map[api.ID]int {
	met := map[api.ID]int{}
	for range n {
		if x, is := w.Next(peers, draw()); is {
			met[x]++
		}
	}
	return met
}

// P17.5: in 2 n - 1 calls each of n peers comes at least once, whatever the walk did before that, with others, with some of them, and whatever the draws.
func TestEachInTime(t *testing.T) {
	late := 0
	for c := range chance(2000) {
		ids := append(many(5), someIDs()...)
		w := c.under(t, setOf(ids)).walk
		peers := c.some(setOf(ids))
		n := len(peers)
		met := calls(w.Copy(), 2*n-1, c.mixed(peers), c.draw)
		if len(met) != n {
			t.Fatalf("in 2 n - 1 calls, of %v: %v", peers, met)
		}
		if len(calls(w, 2*n-2, peers, c.draw)) < n {
			late++
		}
	}
	if late < 20 {
		t.Errorf("only %d times one came no earlier", late)
	}
}

// P17.5: at each place in each sequence of up to six peers, of which one was not there before.
func TestEachInTimeAfterOthers(t *testing.T) {
	for n := 1; n <= 6; n++ {
		peers := many(n)
		for _, before := range parts(peers) {
			for taken := range n + 1 {
				for draw := range uint32(20) {
					w := walk.New()
					for range taken {
						w.Next(before, draw)
					}
					met := calls(w, 2*n-1, peers, func() uint32 { draw += 3; return draw })
					if len(met) != n {
						t.Fatalf("of %v, after %d of %v: %v", peers, taken, before, met)
					}
				}
			}
		}
	}
}

// P17.6: from a new walk on each n calls make a sequence, that of the draw of the first one of them; each peer comes once in it.
func TestInTurn(t *testing.T) {
	for c := range chance(200) {
		peers := c.some(many(9))
		w := walk.New()
		for range 6 {
			var row []api.ID
			var first uint32
			for k := range peers {
				draw := c.draw()
				if k == 0 {
					first = draw
				}
				x, _ := w.Next(c.mixed(peers), draw)
				row = append(row, x)
			}
			wants(t, "n calls, put in order", setOf(row), peers...)
			wants(t, "n calls", row, walk.Row(peers, first)...)
		}
	}
}

// P17.6, beyond it: calls without peers in between do not count.
func TestInTurnWithBreaks(t *testing.T) {
	for c := range chance(100) {
		peers, w := many(1+c.below(9)), walk.New()
		for range 4 {
			var row []api.ID
			for len(row) < len(peers) {
				if c.below(2) == 0 {
					w.Next(nil, c.draw())
				} else if x, is := w.Next(peers, c.draw()); is {
					row = append(row, x)
				}
			}
			wants(t, "n calls, put in order", setOf(row), peers...)
		}
	}
}

// P17.7: a draw is used only where a new sequence is made: two walks that are told the same, but other draws elsewhere, proceed in the same way.
func TestDrawsElsewhere(t *testing.T) {
	for c := range chance(300) {
		b := fresh(t)
		other := walk.New()
		ids := someIDs()
		peers := c.some(ids)
		for range 40 {
			if c.below(6) == 0 {
				peers = c.mixed(c.some(ids))
			}
			draw := c.draw()
			o := b.next(t, draw, peers...)
			if !o.made {
				draw = c.draw()
			}
			if x, is := other.Next(peers, draw); x != o.id || is != o.is || other.Left() != o.left {
				t.Fatalf("with another draw: %v, %t, %d left, not %v", x, is, other.Left(), o)
			}
		}
	}
}

// P17.7: where a new sequence is made the draw counts: it is the row of that draw, and of no draw before that.
func TestDrawsCount(t *testing.T) {
	others := 0
	for c := range chance(300) {
		peers := many(2 + c.below(6))
		b := fresh(t)
		b.round(t, c.draw(), peers...)
		one, two := c.draw(), c.draw()
		x, y := b.apart().round(t, one, peers...), b.round(t, two, peers...)
		wants(t, "the next row", x, walk.Row(peers, one)...)
		wants(t, "the next row", y, walk.Row(peers, two)...)
		if !slices.Equal(x, y) {
			others++
		}
	}
	if others < 200 {
		t.Errorf("only %d times another row", others)
	}
}

// P17.7: the same walk, with the same peers and draws, proceeds in the same way, in whatever order the peers are given.
func TestSameAgain(t *testing.T) {
	for c := range chance(200) {
		b := c.under(t, someIDs())
		other := b.apart()
		for range 30 {
			peers, draw := c.some(someIDs()), c.draw()
			if x, y := b.next(t, draw, peers...), other.next(t, draw, c.mixed(peers)...); x != y {
				t.Fatalf("of %v, for %d: %v, and %v", peers, draw, x, y)
			}
		}
	}
}
