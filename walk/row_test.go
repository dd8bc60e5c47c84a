package walk_test

import (
	"math"
	"slices"
	"testing"

	"covey/api"
	"covey/walk"
)

// The chapter's example, and P17.1: the row of one peer is that peer, for any draw, whoever it is.
func TestRowOfOne(t *testing.T) {
	for _, x := range append(someIDs(), anyIDs()...) {
		for _, draw := range draws() {
			wants(t, "Row of one", walk.Row([]api.ID{x}, draw), x)
			wants(t, "Row of one, given twice and more", walk.Row([]api.ID{x, x, x}, draw), x)
		}
	}
}

// P17.1: the row of nobody has nobody.
func TestRowOfNobody(t *testing.T) {
	for _, none := range [][]api.ID{nil, {}, first(1, 2)[:0]} {
		for _, draw := range draws() {
			wants(t, "Row of nobody", walk.Row(none, draw))
		}
	}
}

// P17.1, number by number: what the draw becomes, of that the highest 16 bits, and the rows that they make, worked out apart from the package, and from the model.
func TestRowByNumbers(t *testing.T) {
	for _, c := range []struct {
		draw    uint32
		becomes [4]uint64
		highest [4]uint64
		rows    [4][]int // of two, three, four and five peers
	}{
		// 15470 by 5 leaves 0: 5 2 3 4 1; 18256 by 4 leaves 0: 4 2 3 5 1; 53708 by 3 leaves 2; 43769 by 2 leaves 1.
		{0, [4]uint64{1013904223, 1196435762, 3519870697, 2868466484}, [4]uint64{15470, 18256, 53708, 43769}, [4][]int{{2, 1}, {2, 1, 3}, {4, 1, 2, 3}, {4, 2, 3, 5, 1}}},
		// 15496 by 5 leaves 1: 1 5 3 4 2; 24200 by 4 leaves 0: 4 5 3 1 2; 33046 by 3 leaves 1: 4 3 5 1 2; 46195 by 2 leaves 1.
		{1, [4]uint64{1015568748, 1586005467, 2165703038, 3027450565}, [4]uint64{15496, 24200, 33046, 46195}, [4][]int{{2, 1}, {3, 1, 2}, {2, 4, 3, 1}, {4, 3, 5, 1, 2}}},
		{2580, [4]uint64{1013411427, 1263927398, 1575722125, 730535048}, [4]uint64{15463, 19286, 24043, 11147}, [4][]int{{1, 2}, {3, 1, 2}, {1, 2, 3, 4}, {1, 5, 2, 3, 4}}},
		{2581, [4]uint64{1015075952, 1653497103, 221554466, 889519129}, [4]uint64{15488, 25230, 3380, 13572}, [4][]int{{2, 1}, {2, 1, 3}, {2, 3, 4, 1}, {2, 1, 5, 3, 4}}},
		{65536, [4]uint64{2726032223, 2751015218, 3697407721, 2458538804}, [4]uint64{41595, 41977, 56417, 37514}, [4][]int{{1, 2}, {3, 2, 1}, {1, 3, 2, 4}, {4, 5, 3, 2, 1}}},
		{math.MaxInt32 + 1, [4]uint64{3161387871, 3343919410, 1372387049, 720982836}, [4]uint64{48238, 51024, 20940, 11001}, [4][]int{{2, 1}, {3, 1, 2}, {2, 4, 1, 3}, {3, 2, 5, 1, 4}}},
		{math.MaxUint32, [4]uint64{1012239698, 806866057, 579071060, 2709482403}, [4]uint64{15445, 12311, 8835, 41343}, [4][]int{{1, 2}, {1, 3, 2}, {1, 4, 3, 2}, {3, 2, 5, 4, 1}}},
	} {
		number := uint64(c.draw)
		for i := range c.becomes {
			number = becomes(number)
			if number != c.becomes[i] || number>>16 != c.highest[i] {
				t.Fatalf("%d becomes %d (step %d), not %d", c.draw, number, i+1, c.becomes[i])
			}
		}
		for n, want := range c.rows {
			peers := first(1, 2, 3, 4, 5)[:n+2]
			wants(t, "Row", walk.Row(peers, c.draw), first(want...)...)
			checkRow(t, peers, c.draw)
		}
	}
}

// P17.1: a row of as many peers as there are addresses, for draws at the ends.
func TestRowOfAllAddresses(t *testing.T) {
	for _, c := range []struct {
		draw uint32
		want []int
	}{
		{0, []int{6, 5, 7, 2, 1, 11, 4, 10, 12, 9, 8, 3}},
		{2581, []int{5, 6, 2, 12, 11, 4, 7, 3, 10, 1, 8, 9}},
		{math.MaxInt32, []int{11, 1, 9, 5, 7, 12, 3, 6, 8, 4, 2, 10}},
		{math.MaxInt32 + 1, []int{9, 10, 6, 2, 12, 5, 8, 3, 4, 1, 7, 11}},
		{math.MaxUint32 - 1, []int{5, 3, 7, 4, 12, 6, 11, 8, 2, 9, 10, 1}},
		{math.MaxUint32, []int{9, 5, 12, 11, 1, 8, 4, 10, 7, 6, 3, 2}},
	} {
		wants(t, "Row", walk.Row(first(1, 2, 3, 4, 5, 6, 7, 8, 9, 10, 11, 12), c.draw), first(c.want...)...)
	}
}

// P17.1: rows of no peer, of one, two, three and more, for many draws, held against the model.
func TestRows(t *testing.T) {
	var c chance
	for _, peers := range append(parts(someIDs()), anyIDs()) {
		for _, draw := range draws() {
			checkRow(t, peers, draw)
		}
		for range 60 {
			checkRow(t, peers, c.draw())
		}
	}
	for n := range 70 {
		for _, draw := range append(draws(), c.draw(), c.draw(), c.draw()) {
			checkRow(t, many(n), draw)
		}
	}
}

// P17.1: so many peers that 16 bits do not count them all.
func TestLongRows(t *testing.T) {
	for _, n := range []int{1000, 65535, 65536, 65537, 66000} {
		for _, draw := range []uint32{0, 5, math.MaxUint32} {
			got, want := walk.Row(many(n), draw), rowOf(many(n), draw)
			if !slices.Equal(got, want) {
				t.Fatalf("Row of %d peers, for %d, is another one", n, draw)
			}
		}
	}
}

// P17.1: a list in any order, in which peers may stand twice and more, has the row of its set.
func TestRowOfAnyList(t *testing.T) {
	var c chance
	for _, draw := range draws() {
		want := walk.Row(first(1, 2, 4, 9), draw)
		for _, l := range orders(first(1, 2, 4, 9)) {
			wants(t, "Row in another order", walk.Row(l, draw), want...)
			wants(t, "Row, each twice", walk.Row(append(l, l...), draw), want...)
			wants(t, "Row, the first one twice", walk.Row(append(l, l[0]), draw), want...)
			wants(t, "Row, the last one twice", walk.Row(append(l, l[3]), draw), want...)
		}
	}
	for range 1000 {
		peers, draw := c.some(append(anyIDs()[:4], someIDs()...)), c.draw()
		wants(t, "Row, mixed", walk.Row(c.mixed(peers), draw), rowOf(peers, draw)...)
	}
}

// P17.1: peers of one address are ordered by incarnation, and no incarnation comes before an address.
func TestRowByAddressFirst(t *testing.T) {
	for _, draw := range draws() {
		places := walk.Row(first(1, 2, 3, 4), draw)
		for i, x := range walk.Row([]api.ID{id(2, 9), id(1, 8), id(2, 1), id(1, 7)}, draw) {
			if want := []api.ID{id(1, 7), id(1, 8), id(2, 1), id(2, 9)}[places[i].Addr-1]; x != want {
				t.Fatalf("Row of peers of two addresses, for %d: at %d %v, not %v", draw, i, x, want)
			}
		}
	}
}

// P17.3: a row has each peer once, and nobody else.
func TestEachOnce(t *testing.T) {
	var c chance
	for k := range 2000 {
		peers := c.some(append(anyIDs()[:5], someIDs()...))
		if k%2 == 0 {
			peers = c.some(many(k / 20))
		}
		row := walk.Row(c.mixed(peers), c.draw())
		slices.SortFunc(row, order)
		wants(t, "Row, put in order", row, peers...)
	}
}

// P17.3: each order of some peers is a row for some draw, and none is one for most of them.
func TestEachOrder(t *testing.T) {
	for n := 2; n <= 4; n++ {
		peers := first(1, 2, 3, 4)[:n]
		all := orders(peers)
		count := make([]int, len(all))
		for draw := range uint32(1000 * len(all)) {
			row := walk.Row(peers, draw*2654435769)
			count[slices.IndexFunc(all, func(l []api.ID) bool { return slices.Equal(l, row) })]++
		}
		for i, k := range count {
			if k < 800 || k > 1200 {
				t.Errorf("the order %v is a row for %d of %d draws", all[i], k, 1000*len(all))
			}
		}
	}
}
