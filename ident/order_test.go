package ident_test

import (
	"slices"
	"testing"

	"covey/api"
	"covey/ident"
)

// P3.1: May, at each limit and one beyond.
func TestMay(t *testing.T) {
	for _, c := range []struct {
		id   api.ID
		want bool
	}{
		{api.ID{Addr: 1, Inc: 1}, true},
		{api.ID{Addr: 5, Inc: 77}, true},
		{api.ID{Addr: 12, Inc: 1}, true},
		{api.ID{Addr: 1, Inc: 1048576}, true},
		{api.ID{Addr: 12, Inc: 1048576}, true},
		{api.ID{Addr: 1, Inc: 13}, true},
		{api.ID{}, false},
		{api.ID{Addr: 0, Inc: 1}, false},
		{api.ID{Addr: 1, Inc: 0}, false},
		{api.ID{Addr: -1, Inc: 1}, false},
		{api.ID{Addr: 1, Inc: -1}, false},
		{api.ID{Addr: -1, Inc: -1}, false},
		{api.ID{Addr: 13, Inc: 1}, false},
		{api.ID{Addr: 1, Inc: 1048577}, false},
		{api.ID{Addr: 13, Inc: 1048577}, false},
		{api.ID{Addr: 12, Inc: 1048577}, false},
		{api.ID{Addr: 13, Inc: 1048576}, false},
	} {
		if got := ident.May(c.id); got != c.want {
			t.Errorf("May(%v): %t", c.id, got)
		}
	}
	for _, id := range anyIDs() {
		valid := slices.Contains([]int{1, 2, api.MaxAddr}, id.Addr) && slices.Contains([]int{1, 2, api.MaxAddr, api.MaxAddr + 1, api.MaxInc}, id.Inc)
		if got := ident.May(id); got != valid {
			t.Errorf("May(%v): %t", id, got)
		}
	}
}

// P3.1: every address that there is, and both ends of its incarnations.
func TestMayOfAllAddresses(t *testing.T) {
	for addr := -20; addr <= 40; addr++ {
		want := addr >= 1 && addr <= 12
		for _, inc := range []int{1, 2, 1000, api.MaxInc - 1, api.MaxInc} {
			if got := ident.May(api.ID{Addr: addr, Inc: inc}); got != want {
				t.Errorf("May(%d.%d): %t", addr, inc, got)
			}
		}
	}
}

// P3.1: Less and Compare, by address first, then by incarnation.
func TestOrder(t *testing.T) {
	for _, c := range []struct {
		a, b api.ID
		want int
	}{
		{api.ID{Addr: 1, Inc: 1}, api.ID{Addr: 1, Inc: 1}, 0},
		{api.ID{Addr: 1, Inc: 1}, api.ID{Addr: 1, Inc: 2}, -1},
		{api.ID{Addr: 1, Inc: 1}, api.ID{Addr: 2, Inc: 1}, -1},
		{api.ID{Addr: 1, Inc: 9}, api.ID{Addr: 2, Inc: 1}, -1},
		{api.ID{Addr: 3, Inc: 1}, api.ID{Addr: 2, Inc: 9}, 1},
		{api.ID{Addr: 3, Inc: 9}, api.ID{Addr: 3, Inc: 4}, 1},
		{api.ID{Addr: 12, Inc: 1}, api.ID{Addr: 2, Inc: api.MaxInc}, 1},
	} {
		if got := ident.Compare(c.a, c.b); got != c.want {
			t.Errorf("Compare(%v, %v): %d, not %d", c.a, c.b, got, c.want)
		}
		if got := ident.Compare(c.b, c.a); got != -c.want {
			t.Errorf("Compare(%v, %v): %d, not %d", c.b, c.a, got, -c.want)
		}
		if got := ident.Less(c.a, c.b); got != (c.want == -1) {
			t.Errorf("Less(%v, %v): %t", c.a, c.b, got)
		}
	}
}

// P3.1: Less and Compare of any numbers: no difference of two of them may wrap round.
func TestOrderOfAnyNumbers(t *testing.T) {
	for _, a := range anyIDs() {
		for _, b := range anyIDs() {
			want := order(a, b)
			if got := ident.Compare(a, b); got != want {
				t.Fatalf("Compare(%v, %v): %d, not %d", a, b, got, want)
			}
			if got := ident.Less(a, b); got != (want < 0) {
				t.Fatalf("Less(%v, %v): %t", a, b, got)
			}
		}
	}
}

// P3.3: of any two IDs one is before the other, or they are the same.
func TestOrderIsTotal(t *testing.T) {
	for _, a := range anyIDs() {
		for _, b := range anyIDs() {
			ways := 0
			for _, is := range []bool{ident.Less(a, b), ident.Less(b, a), a == b} {
				if is {
					ways++
				}
			}
			if ways != 1 || ident.Compare(a, b) != -ident.Compare(b, a) {
				t.Fatalf("%v and %v: %d of before, behind and same", a, b, ways)
			}
		}
	}
}

// P3.3: the order is transitive.
func TestOrderIsTransitive(t *testing.T) {
	ids := anyIDs()
	for _, a := range ids {
		for _, b := range ids {
			if !ident.Less(a, b) {
				continue
			}
			for _, c := range ids {
				if ident.Less(b, c) && (!ident.Less(a, c) || ident.Compare(a, c) != -1) {
					t.Fatalf("%v, %v and %v: the first is not before the last", a, b, c)
				}
			}
		}
	}
}

// P3.1: Rising of lists of every length, and with one pair of neighbours that does not rise, wherever it stands.
func TestRising(t *testing.T) {
	for n := range 70 {
		if l := rise(n); !ident.Rising(l) {
			t.Errorf("Rising(%v): false", l)
		}
		for i := 1; i < n; i++ {
			turned, twice := rise(n), rise(n)
			turned[i-1], turned[i] = turned[i], turned[i-1]
			twice[i] = twice[i-1]
			if ident.Rising(turned) || ident.Rising(twice) {
				t.Errorf("Rising(%v), or (%v): true", turned, twice)
			}
		}
	}
	if !ident.Rising(nil) || !ident.Rising([]api.ID{}) {
		t.Error("Rising of no IDs: false")
	}
}

// P3.1: Rising of any IDs: one alone, valid or not, and any two.
func TestRisingOfAnyIDs(t *testing.T) {
	for _, a := range anyIDs() {
		if !ident.Rising([]api.ID{a}) {
			t.Errorf("Rising of %v alone: false", a)
		}
		for _, b := range anyIDs() {
			if got := ident.Rising([]api.ID{a, b}); got != (order(a, b) < 0) {
				t.Fatalf("Rising of %v, %v: %t", a, b, got)
			}
		}
	}
}

// P3.1: Rising of all short lists.
func TestRisingOfShortLists(t *testing.T) {
	for _, l := range shortLists(fewIDs, 4) {
		want := true
		for i := range l[:max(0, len(l)-1)] {
			want = want && order(l[i], l[i+1]) < 0
		}
		if got := ident.Rising(l); got != want {
			t.Errorf("Rising(%v): %t", l, got)
		}
	}
}
