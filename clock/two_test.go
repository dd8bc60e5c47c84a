package clock_test

import (
	"slices"
	"testing"

	"covey/api"
	"covey/clock"
)

// Functions: the results of a comparison are numbered consecutively.
func TestResults(t *testing.T) {
	for _, c := range []struct {
		name      string
		got, want uint8
	}{
		{"Same", clock.Same, 1},
		{"Behind", clock.Behind, 2},
		{"Ahead", clock.Ahead, 3},
		{"Apart", clock.Apart, 4},
	} {
		if c.got != c.want {
			t.Errorf("%s: %d, not %d", c.name, c.got, c.want)
		}
	}
}

func TestExamples(t *testing.T) {
	a, b := []api.Tick{tick(1, 1, 2), tick(2, 1, 1)}, []api.Tick{tick(1, 1, 1), tick(3, 1, 1)}
	if got := clock.Join(a, b); !slices.Equal(got, []api.Tick{tick(1, 1, 2), tick(2, 1, 1), tick(3, 1, 1)}) {
		t.Errorf("Join(%v, %v): %v", a, b, got)
	}
	if got := clock.Compare(a, b); got != clock.Apart {
		t.Errorf("Compare(%v, %v): %d", a, b, got)
	}
	if got, e := clock.Up(nil, id(2, 1)); e != api.OK || !slices.Equal(got, []api.Tick{tick(2, 1, 1)}) {
		t.Errorf("Up of no clock for 2.1: %v, %v", got, e)
	}
	if got := clock.Compare(nil, []api.Tick{tick(1, 1, 0)}); got != clock.Same {
		t.Errorf("Compare of nothing and of 1.1 zero times: %d", got)
	}
}

// P5.2: clocks that are the same, behind, ahead and apart, joined either way.
func TestJoinAndCompare(t *testing.T) {
	for _, c := range []struct {
		a, b, join []api.Tick
		want       uint8
	}{
		{nil, nil, nil, clock.Same},
		{nil, []api.Tick{tick(1, 1, 1)}, []api.Tick{tick(1, 1, 1)}, clock.Behind},
		{[]api.Tick{tick(1, 1, 1)}, nil, []api.Tick{tick(1, 1, 1)}, clock.Ahead},
		{[]api.Tick{tick(1, 1, 4)}, []api.Tick{tick(1, 1, 4)}, []api.Tick{tick(1, 1, 4)}, clock.Same},
		{[]api.Tick{tick(1, 1, 4)}, []api.Tick{tick(1, 1, 5)}, []api.Tick{tick(1, 1, 5)}, clock.Behind},
		{[]api.Tick{tick(1, 1, 4)}, []api.Tick{tick(1, 2, 4)}, []api.Tick{tick(1, 1, 4), tick(1, 2, 4)}, clock.Apart},
		{[]api.Tick{tick(2, 1, 4)}, []api.Tick{tick(1, 2, 4)}, []api.Tick{tick(1, 2, 4), tick(2, 1, 4)}, clock.Apart},
		{[]api.Tick{tick(1, 1, 4), tick(2, 1, 1)}, []api.Tick{tick(1, 1, 4)}, []api.Tick{tick(1, 1, 4), tick(2, 1, 1)}, clock.Ahead},
		{[]api.Tick{tick(1, 1, 4), tick(2, 1, 1)}, []api.Tick{tick(1, 1, 5)}, []api.Tick{tick(1, 1, 5), tick(2, 1, 1)}, clock.Apart},
		{[]api.Tick{tick(1, 1, 4), tick(2, 1, 1)}, []api.Tick{tick(1, 1, 3), tick(2, 1, 2)}, []api.Tick{tick(1, 1, 4), tick(2, 1, 2)}, clock.Apart},
		{[]api.Tick{tick(1, 1, 4), tick(2, 1, 1)}, []api.Tick{tick(1, 1, 4), tick(2, 1, 2)}, []api.Tick{tick(1, 1, 4), tick(2, 1, 2)}, clock.Behind},
		{[]api.Tick{tick(1, 1, 1)}, []api.Tick{tick(1, 1, 1099511627776)}, []api.Tick{tick(1, 1, 1099511627776)}, clock.Behind},
	} {
		for _, way := range []struct {
			a, b []api.Tick
			want uint8
		}{{c.a, c.b, c.want}, {c.b, c.a, exchanged(c.want)}} {
			if got := clock.Join(way.a, way.b); !slices.Equal(got, c.join) {
				t.Errorf("Join(%v, %v): %v, not %v", way.a, way.b, got, c.join)
			}
			if got := clock.Compare(way.a, way.b); got != way.want {
				t.Errorf("Compare(%v, %v): %d, not %d", way.a, way.b, got, way.want)
			}
		}
	}
}

// exchanged is the result of a comparison for exchanged arguments.
func exchanged(result uint8) uint8 {
	return []uint8{0, 1, 3, 2, 4}[result]
}

// P5.2: lists that are not valid: IDs that stand twice, that do not increase, and of which nothing is said.
func TestListsThatAreNotValid(t *testing.T) {
	for _, c := range []struct {
		a, b, join []api.Tick
		want       uint8
	}{
		{[]api.Tick{tick(1, 1, 0)}, []api.Tick{tick(2, 1, -1)}, nil, clock.Same},
		{[]api.Tick{tick(1, 1, -4)}, nil, nil, clock.Same},
		{[]api.Tick{tick(1, 1, -4)}, []api.Tick{tick(1, 1, -5)}, nil, clock.Same},
		{[]api.Tick{tick(1, 1, 0)}, []api.Tick{tick(1, 1, 1)}, []api.Tick{tick(1, 1, 1)}, clock.Behind},
		{[]api.Tick{tick(1, 1, 1), tick(1, 1, 2)}, []api.Tick{tick(1, 1, 2)}, []api.Tick{tick(1, 1, 2)}, clock.Same},
		{[]api.Tick{tick(1, 1, 2), tick(1, 1, 1)}, []api.Tick{tick(1, 1, 2)}, []api.Tick{tick(1, 1, 2)}, clock.Same},
		{[]api.Tick{tick(1, 1, 2), tick(1, 1, 0)}, []api.Tick{tick(1, 1, 2)}, []api.Tick{tick(1, 1, 2)}, clock.Same},
		{[]api.Tick{tick(1, 1, 2), tick(2, 1, 1), tick(1, 1, 3)}, []api.Tick{tick(1, 1, 3)}, []api.Tick{tick(1, 1, 3), tick(2, 1, 1)}, clock.Ahead},
		{[]api.Tick{tick(2, 1, 1), tick(1, 1, 2)}, []api.Tick{tick(1, 1, 2), tick(2, 1, 1)}, []api.Tick{tick(1, 1, 2), tick(2, 1, 1)}, clock.Same},
		{[]api.Tick{tick(2, 1, 1), tick(1, 1, 2)}, []api.Tick{tick(3, 1, 2), tick(1, 1, 1)}, []api.Tick{tick(1, 1, 2), tick(2, 1, 1), tick(3, 1, 2)}, clock.Apart},
		{[]api.Tick{tick(0, 0, 1)}, []api.Tick{tick(13, -1, 1<<40+1)}, []api.Tick{tick(0, 0, 1), tick(13, -1, 1<<40+1)}, clock.Apart},
	} {
		if got := clock.Join(c.a, c.b); !slices.Equal(got, c.join) {
			t.Errorf("Join(%v, %v): %v, not %v", c.a, c.b, got, c.join)
		}
		if got := clock.Compare(c.a, c.b); got != c.want {
			t.Errorf("Compare(%v, %v): %d, not %d", c.a, c.b, got, c.want)
		}
	}
}

// P5.2: no ticks, in either list or in both, say nothing of anybody.
func TestNoTicks(t *testing.T) {
	one := []api.Tick{tick(4, 2, 7)}
	for _, none := range [][]api.Tick{nil, {}, one[:0], {tick(4, 2, 0)}, {tick(4, 2, -1), tick(4, 2, -7)}} {
		for _, other := range [][]api.Tick{nil, {}, {tick(5, 1, 0)}} {
			if len(clock.Join(none, other)) != 0 || clock.Compare(none, other) != clock.Same {
				t.Errorf("%v and %v: Join %v, Compare %d", none, other, clock.Join(none, other), clock.Compare(none, other))
			}
		}
		if clock.Compare(none, one) != clock.Behind || clock.Compare(one, none) != clock.Ahead {
			t.Errorf("Compare of %v and one tick", none)
		}
		if !slices.Equal(clock.Join(none, one), one) || !slices.Equal(clock.Join(one, none), one) {
			t.Errorf("Join of %v and one tick", none)
		}
	}
}

// P5.2: all short lists against each other: in every order, with IDs that stand twice, and with numbers of 0 and below.
func TestShortLists(t *testing.T) {
	for _, lists := range [][][]api.Tick{
		shortLists(ticksOf(fewIDs[1:3], []int{-1, 0, 1, 2}), 2),
		shortLists(ticksOf(fewIDs[:3], []int{1, 2}), 3),
		clocksOf(fewIDs, 2),
	} {
		for _, a := range lists {
			for _, b := range lists {
				checkTwo(t, a, b)
			}
		}
	}
}

// P5.2: any numbers: no difference of two of them may wrap round.
func TestListsOfAnyNumbers(t *testing.T) {
	for _, m := range anyNumbers() {
		for _, n := range anyNumbers() {
			checkTwo(t, []api.Tick{tick(1, 1, m)}, []api.Tick{tick(1, 1, n)})
			checkTwo(t, []api.Tick{tick(1, 1, m), tick(1, 1, n)}, []api.Tick{tick(1, 1, n)})
			checkTwo(t, []api.Tick{tick(1, 1, m)}, []api.Tick{tick(1, 1, m), tick(1, 1, n)})
		}
	}
	for _, x := range anyIDs() {
		for _, y := range anyIDs() {
			checkTwo(t, []api.Tick{{Of: x, N: 1}, {Of: y, N: 2}}, []api.Tick{{Of: y, N: 1}})
		}
	}
	ticks := ticksOf(anyIDs(), anyNumbers())
	d := draw(1)
	for n := range 200 {
		checkTwo(t, d.list(n, ticks), d.list(d.below(200), ticks))
	}
}

// P5.2: lists of every length up to more than MaxList: rising, falling, and drawn with few and with many that stand twice.
func TestListsOfEveryLength(t *testing.T) {
	d := draw(2)
	few, many := ticksOf(fewIDs, []int{-1, 0, 1, 2, 3}), rise(1000)
	for n := range 140 {
		up := rise(n)
		down := slices.Clone(up)
		slices.Reverse(down)
		for _, a := range [][]api.Tick{up, down, slices.Concat(up, up), slices.Concat(down, up), d.list(n, few), d.list(n, many)} {
			checkTwo(t, a, up)
			checkTwo(t, up, a)
			checkTwo(t, a, d.list(d.below(n+1), few))
			checkTwo(t, d.list(d.below(n+1), many), a)
		}
	}
}

// P5.2: Compare tells one tick that says more, and one that is missing, wherever it stands, and with one elsewhere that says less.
func TestCompareOfEveryPlace(t *testing.T) {
	for n := 1; n < 70; n++ {
		c := rise(n)
		for i := range c {
			more, less := slices.Clone(c), slices.Delete(slices.Clone(c), i, i+1)
			more[i].N++
			if clock.Compare(c, more) != clock.Behind || clock.Compare(more, c) != clock.Ahead {
				t.Fatalf("Compare of %d ticks, and of more at %d", n, i)
			}
			if clock.Compare(less, c) != clock.Behind || clock.Compare(c, less) != clock.Ahead {
				t.Fatalf("Compare of %d ticks, and of none at %d", n, i)
			}
			other := slices.Clone(c)
			other[(i+1)%n].N++
			want := clock.Apart
			if n == 1 {
				want = clock.Same
			}
			if got := clock.Compare(more, other); got != want {
				t.Fatalf("Compare of %d ticks, of more at %d and of more beside it: %d", n, i, got)
			}
		}
	}
}

// P5.2: long lists, the work for which must not grow with the square of their length.
func TestLongLists(t *testing.T) {
	const n = 1 << 18
	up := rise(n)
	down := slices.Clone(up)
	slices.Reverse(down)
	d := draw(3)
	drawn := d.list(n, up)
	if got := clock.Join(down, drawn); !slices.Equal(got, up) {
		t.Errorf("Join: %d ticks, not %d, or other ones", len(got), n)
	}
	if got := clock.Join(drawn, nil); !slices.Equal(got, joinOf(drawn, nil)) {
		t.Errorf("Join of a drawn list: %d ticks, or other ones", len(got))
	}
	if got := clock.Join(slices.Repeat(ticksOf(fewIDs, []int{2, 0, 3, -1}), n/16), nil); !slices.Equal(got, ticksOf(fewIDs, []int{3})) {
		t.Errorf("Join of few IDs many times: %d ticks", len(got))
	}
	if clock.Compare(up, down) != clock.Same || clock.Compare(up, drawn) != clock.Ahead || clock.Compare(down[1:], up[1:]) != clock.Apart || clock.Compare(down[1:], up) != clock.Behind {
		t.Error("Compare")
	}
	if clock.May(up) || clock.Get(down, up[0].Of) != up[0].N {
		t.Error("May, Get")
	}
}

// What is handed in stays as it is, its spare room included, also where both lists are one.
func TestListsAreLeft(t *testing.T) {
	d := draw(4)
	few := ticksOf(fewIDs, []int{-1, 0, 1, 2})
	for n := range 40 {
		whole := d.list(n+8, few)
		if n%2 == 0 {
			whole = rise(n + 8)
		}
		other := d.list(12, few)
		a, b := slices.Clone(whole), slices.Clone(other)
		for _, of := range []api.ID{id(1, 1), id(12, 9), {}} {
			checkOne(t, a[:n], of)
			checkOne(t, b[:5], of)
		}
		checkTwo(t, a[:n], b[:5])
		checkTwo(t, b[:5], a[:n])
		checkTwo(t, a[:n], a[:n])
		checkTwo(t, a[:n], a[n/2:])
		if !slices.Equal(a, whole) || !slices.Equal(b, other) {
			t.Fatalf("%v became %v, or %v became %v", whole, a, other, b)
		}
	}
}

// Each result is in memory of its own: neither an argument nor another result changes with it.
func TestResultsAreNew(t *testing.T) {
	lists := append(shortLists(ticksOf(fewIDs[:2], []int{0, 1, 2}), 2), rise(20), rise(64))
	operations := []func(a, b []api.Tick) []api.Tick{
		clock.Join,
		func(a, _ []api.Tick) []api.Tick { c, _ := clock.Up(a, id(1, 1)); return c },
		func(a, _ []api.Tick) []api.Tick { c, _ := clock.Up(a, id(12, 1)); return c },
	}
	for k, of := range operations {
		for _, whole := range lists {
			for _, other := range [][]api.Tick{nil, rise(7), whole} {
				a, b := slices.Clone(whole), slices.Clone(other)
				got, again := of(a, b), of(a, b)
				want := slices.Clone(got)
				fill(got)
				if !slices.Equal(a, whole) || !slices.Equal(b, other) || !slices.Equal(again, want) {
					t.Fatalf("operation %d of %v and %v shares memory with its result", k, whole, other)
				}
				fill(a)
				fill(b)
				of(rise(30), rise(40))
				if !slices.Equal(again, want) {
					t.Fatalf("operation %d of %v and %v: its result changes later", k, whole, other)
				}
			}
		}
	}
}

// fill overwrites a list, and the room behind it.
func fill(l []api.Tick) {
	for i := range l[:cap(l)] {
		l[:cap(l)][i] = tick(-7, -7, 77)
	}
}
