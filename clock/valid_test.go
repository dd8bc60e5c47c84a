package clock_test

import (
	"slices"
	"testing"

	"covey/api"
	"covey/clock"
)

// P5.1: clocks that are valid: none, one of each limit, and all that rise.
func TestMay(t *testing.T) {
	for _, c := range [][]api.Tick{
		nil,
		{},
		{tick(1, 1, 1)},
		{tick(12, 1048576, 1099511627776)},
		{tick(1, 1048576, 1), tick(2, 1, 1099511627776)},
		{tick(1, 1, 5), tick(1, 2, 5), tick(2, 1, 5)},
		{tick(1, 9, 9), tick(2, 1, 1), tick(11, 3, 4), tick(12, 1, 2)},
	} {
		if !clock.May(c) {
			t.Errorf("May(%v): false", c)
		}
	}
	for n := range 65 {
		if c := rise(n); !clock.May(c) {
			t.Errorf("May of %d ticks that increase: false", n)
		}
	}
}

// P5.1: clocks that are not valid, for one reason each.
func TestMayNot(t *testing.T) {
	for _, c := range [][]api.Tick{
		{{}},
		{tick(0, 1, 1)},
		{tick(-1, 1, 1)},
		{tick(13, 1, 1)},
		{tick(1, 0, 1)},
		{tick(1, -1, 1)},
		{tick(1, 1048577, 1)},
		{tick(1, 1, 0)},
		{tick(1, 1, -1)},
		{tick(1, 1, 1099511627777)},
		{tick(1, 1, 1), tick(1, 1, 1)},
		{tick(1, 1, 1), tick(1, 1, 2)},
		{tick(2, 1, 1), tick(1, 2, 1)},
		{tick(1, 2, 1), tick(1, 1, 2)},
		{tick(1, 1, 1), tick(2, 1, 1), tick(1, 1, 1)},
		{tick(1, 1, 1), tick(2, 1, 0)},
	} {
		if clock.May(c) {
			t.Errorf("May(%v): true", c)
		}
	}
	for n := 65; n < 140; n++ {
		if clock.May(rise(n)) {
			t.Errorf("May of %d ticks: true", n)
		}
	}
}

// P5.1: clocks of every length in which one tick is wrong, wherever it stands. (The first one has none before it, so that not all ways make it wrong.)
func TestMayOfOneWrongTick(t *testing.T) {
	wrong := []func(x *api.Tick, before api.ID){
		func(x *api.Tick, _ api.ID) { x.N = 0 },
		func(x *api.Tick, _ api.ID) { x.N = 1<<40 + 1 },
		func(x *api.Tick, _ api.ID) { x.Of.Addr = 13 },
		func(x *api.Tick, _ api.ID) { x.Of.Inc = 0 },
		func(x *api.Tick, _ api.ID) { x.Of.Inc = 1<<20 + 1 },
		func(x *api.Tick, before api.ID) { x.Of = before },
		func(x *api.Tick, before api.ID) { x.Of.Addr, x.Of.Inc = before.Addr, before.Inc-1 },
	}
	for n := 1; n <= 64; n++ {
		for i := range n {
			for k, bend := range wrong {
				c := rise(n)
				bend(&c[i], c[max(i-1, 0)].Of)
				if got := clock.May(c); got != mayOf(c) || i > 0 && got {
					t.Fatalf("May of %d ticks, wrong at %d in way %d: %t", n, i, k, got)
				}
			}
		}
	}
}

// P5.1: any numbers, in one tick and in two.
func TestMayOfAnyNumbers(t *testing.T) {
	for _, of := range anyIDs() {
		for _, n := range anyNumbers() {
			c := []api.Tick{{Of: of, N: n}}
			checkOne(t, c, of)
			checkOne(t, c, id(1, 1))
			checkOne(t, []api.Tick{c[0], tick(12, 7, 1)}, of)
			checkOne(t, []api.Tick{tick(1, 1, 1), c[0]}, of)
		}
	}
}

// P5.1: all calls about one list, of all short ones.
func TestShortClocks(t *testing.T) {
	for _, c := range shortLists(ticksOf(fewIDs[:3], []int{-1, 0, 1, 2}), 3) {
		for _, of := range fewIDs {
			checkOne(t, c, of)
		}
	}
}

// P5.1: Get: the greatest number wherever it stands; 0, if there is none above 0.
func TestGet(t *testing.T) {
	for _, c := range []struct {
		c    []api.Tick
		of   api.ID
		want int
	}{
		{nil, id(1, 1), 0},
		{nil, api.ID{}, 0},
		{[]api.Tick{tick(1, 1, 3)}, id(1, 1), 3},
		{[]api.Tick{tick(1, 1, 3)}, id(1, 2), 0},
		{[]api.Tick{tick(1, 1, 3)}, id(2, 1), 0},
		{[]api.Tick{tick(1, 2, 3)}, id(2, 1), 0},
		{[]api.Tick{tick(1, 1, 3), tick(1, 1, 7), tick(1, 1, 5)}, id(1, 1), 7},
		{[]api.Tick{tick(1, 1, 7), tick(2, 1, 9), tick(1, 1, 5)}, id(1, 1), 7},
		{[]api.Tick{tick(2, 1, 5), tick(1, 1, 1), tick(2, 1, 7)}, id(2, 1), 7},
		{[]api.Tick{tick(1, 1, 0)}, id(1, 1), 0},
		{[]api.Tick{tick(1, 1, -3)}, id(1, 1), 0},
		{[]api.Tick{tick(1, 1, -3), tick(1, 1, 2), tick(1, 1, 0)}, id(1, 1), 2},
		{[]api.Tick{tick(1, 1, 1099511627776)}, id(1, 1), 1099511627776},
		{[]api.Tick{tick(1, 1, 1099511627777)}, id(1, 1), 1099511627777},
		{[]api.Tick{tick(0, 0, 4)}, api.ID{}, 4},
		{[]api.Tick{tick(13, -1, 4)}, id(13, -1), 4},
	} {
		if got := clock.Get(c.c, c.of); got != c.want {
			t.Errorf("Get(%v, %v): %d, not %d", c.c, c.of, got, c.want)
		}
	}
}

// P5.1: Get of each ID of lists of every length, in every place.
func TestGetOfEveryPlace(t *testing.T) {
	for n := 1; n < 70; n++ {
		up := rise(n)
		down := slices.Clone(up)
		slices.Reverse(down)
		for _, x := range up {
			if clock.Get(up, x.Of) != x.N || clock.Get(down, x.Of) != x.N {
				t.Errorf("Get of %v among %d: %d, %d", x, n, clock.Get(up, x.Of), clock.Get(down, x.Of))
			}
			if got := clock.Get(up, id(x.Of.Addr, x.Of.Inc+1)); got != 0 {
				t.Errorf("Get of what is not there, among %d: %d", n, got)
			}
		}
	}
}

// P5.1: Up of an ID that is there, or is not, at every place.
func TestUp(t *testing.T) {
	x := []api.Tick{tick(1, 1, 2), tick(2, 1, 1), tick(2, 3, 8)}
	for _, c := range []struct {
		c    []api.Tick
		of   api.ID
		want []api.Tick
	}{
		{nil, id(1, 1), []api.Tick{tick(1, 1, 1)}},
		{[]api.Tick{}, id(12, 1048576), []api.Tick{tick(12, 1048576, 1)}},
		{x, id(1, 1), []api.Tick{tick(1, 1, 3), tick(2, 1, 1), tick(2, 3, 8)}},
		{x, id(2, 1), []api.Tick{tick(1, 1, 2), tick(2, 1, 2), tick(2, 3, 8)}},
		{x, id(2, 3), []api.Tick{tick(1, 1, 2), tick(2, 1, 1), tick(2, 3, 9)}},
		{x, id(1, 2), []api.Tick{tick(1, 1, 2), tick(1, 2, 1), tick(2, 1, 1), tick(2, 3, 8)}},
		{x, id(2, 2), []api.Tick{tick(1, 1, 2), tick(2, 1, 1), tick(2, 2, 1), tick(2, 3, 8)}},
		{x, id(3, 1), []api.Tick{tick(1, 1, 2), tick(2, 1, 1), tick(2, 3, 8), tick(3, 1, 1)}},
		{x[1:], id(1, 1), []api.Tick{tick(1, 1, 1), tick(2, 1, 1), tick(2, 3, 8)}},
		{[]api.Tick{tick(1, 1, 1099511627775)}, id(1, 1), []api.Tick{tick(1, 1, 1099511627776)}},
		{[]api.Tick{tick(1, 1, 1099511627776)}, id(1, 2), []api.Tick{tick(1, 1, 1099511627776), tick(1, 2, 1)}},
	} {
		if got, e := clock.Up(c.c, c.of); e != api.OK || !slices.Equal(got, c.want) {
			t.Errorf("Up(%v, %v): %v, %v, not %v", c.c, c.of, got, e, c.want)
		}
	}
}

// Errors: a clock, or an ID, that is not valid; this comes before what would be too large.
func TestUpOfWhatIsNotValid(t *testing.T) {
	most := []api.Tick{tick(1, 1, 1099511627776)}
	for _, c := range []struct {
		c  []api.Tick
		of api.ID
	}{
		{nil, api.ID{}},
		{nil, id(0, 1)},
		{nil, id(13, 1)},
		{nil, id(1, 0)},
		{nil, id(1, 1048577)},
		{nil, id(-1, -1)},
		{rise(64), id(13, 1)},
		{rise(64), api.ID{}},
		{rise(65), rise(65)[0].Of},
		{rise(65), id(1, 2)},
		{rise(65), api.ID{}},
		{most, id(1, 0)},
		{[]api.Tick{tick(1, 1, 1099511627777)}, id(1, 1)},
		{[]api.Tick{tick(1, 1, 1099511627777)}, id(2, 1)},
		{[]api.Tick{tick(1, 1, 0)}, id(1, 1)},
		{[]api.Tick{tick(1, 1, -1)}, id(1, 1)},
		{[]api.Tick{tick(13, 1, 1)}, id(1, 1)},
		{[]api.Tick{tick(13, 1, 1)}, id(13, 1)},
		{append(slices.Clone(most), most...), id(1, 1)},
		{append(slices.Clone(most), tick(1, 1, 1)), id(2, 1)},
		{[]api.Tick{tick(2, 1, 1), tick(1, 1, 1099511627776)}, id(1, 1)},
	} {
		if got, e := clock.Up(c.c, c.of); e != api.ErrForm || len(got) != 0 {
			t.Errorf("Up(%v, %v): %v, %v", c.c, c.of, got, e)
		}
	}
}

// Errors: what would be too large: the greatest number, and one tick more than there may be.
func TestUpOfWhatIsTooLarge(t *testing.T) {
	for _, c := range []struct {
		c  []api.Tick
		of api.ID
	}{
		{[]api.Tick{tick(1, 1, 1099511627776)}, id(1, 1)},
		{[]api.Tick{tick(1, 1, 1), tick(2, 1, 1099511627776), tick(3, 1, 1)}, id(2, 1)},
		{rise(64), id(1, 2)},
		{rise(64), id(12, 1048576)},
	} {
		if got, e := clock.Up(c.c, c.of); e != api.ErrTooLarge || len(got) != 0 {
			t.Errorf("Up(%v, %v): %v, %v", c.c, c.of, got, e)
		}
	}
}

// P5.1: at both limits at once: of 64 ticks each one that is not the greatest number goes up; of 63 a new one does.
func TestUpAtTheLimits(t *testing.T) {
	full := rise(64)
	full[20].N = 1 << 40
	for i, x := range full {
		got, e := clock.Up(full, x.Of)
		if i == 20 {
			if e != api.ErrTooLarge || len(got) != 0 {
				t.Errorf("Up of the greatest number: %v, %v", got, e)
			}
			continue
		}
		if e != api.OK || len(got) != 64 || got[i].N != x.N+1 || !clock.May(got) {
			t.Errorf("Up of %v among 64: %v, %v", x, got, e)
		}
	}
	if got, e := clock.Up(rise(63), id(12, 1048576)); e != api.OK || len(got) != 64 || !clock.May(got) || clock.Get(got, id(12, 1048576)) != 1 {
		t.Errorf("Up of one that is not there, among 63: %v, %v", got, e)
	}
}
