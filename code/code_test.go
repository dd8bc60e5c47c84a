package code_test

import (
	"math"
	"slices"
	"strings"
	"testing"

	"covey/api"
	"covey/code"
)

// befores are bytes that stand already where others are written: none, ordinary ones, what reads as a number that goes on.
var befores = []string{"", "x", "\x80", "\x00\xff", "some bytes before"}

func TestExamplesOfWriting(t *testing.T) {
	for _, c := range []struct {
		n    int
		want string
	}{
		{0, "\x00"},
		{127, "\x7f"},
		{128, "\x80\x01"},
		{300, "\xac\x02"},
	} {
		if got, e := code.Num("", c.n); got != c.want || e != api.OK {
			t.Errorf("Num of %d: % x, error %d", c.n, got, e)
		}
	}
	got, e := code.IDs("", []api.ID{{Addr: 1, Inc: 1}, {Addr: 2, Inc: 7}})
	if got != "\x02\x01\x01\x02\x07" || e != api.OK {
		t.Errorf("IDs: % x, error %d", got, e)
	}
}

// P2.1: Num.
func TestNum(t *testing.T) {
	for _, s := range befores {
		for _, n := range numbers() {
			if got, e := code.Num(s, n); got != s+numBytes(n) || e != api.OK {
				t.Errorf("Num(%q, %d): % x, error %d, not % x", s, n, got, e, s+numBytes(n))
			}
		}
	}
	if got, e := code.Num("", api.MaxNumber); got != "\x80\x80\x80\x80\x80\x20" || e != api.OK {
		t.Errorf("Num of MaxNumber: % x, error %d", got, e)
	}
}

// P2.1, ErrArg: what is no number is not written.
func TestNumRefuses(t *testing.T) {
	for _, s := range befores {
		for _, n := range []int{-1, -2, -128, math.MinInt32, math.MinInt, api.MaxNumber + 1, api.MaxNumber * 2, math.MaxInt} {
			if got, e := code.Num(s, n); got != s || e != api.ErrArg {
				t.Errorf("Num(%q, %d): %q, error %d", s, n, got, e)
			}
		}
	}
}

// P2.1: ID.
func TestID(t *testing.T) {
	for _, s := range befores {
		for _, id := range someIDs() {
			if got, e := code.ID(s, id); got != s+idBytes(id) || e != api.OK {
				t.Errorf("ID(%q, %v): % x, error %d, not % x", s, id, got, e, s+idBytes(id))
			}
		}
	}
}

// P2.1, ErrForm: an invalid ID is not written.
func TestIDRefuses(t *testing.T) {
	for _, s := range befores {
		for _, id := range badIDs() {
			if got, e := code.ID(s, id); got != s || e != api.ErrForm {
				t.Errorf("ID(%q, %v): %q, error %d", s, id, got, e)
			}
		}
	}
}

// P2.1: IDs, of every length that a list may have.
func TestIDs(t *testing.T) {
	for _, s := range befores {
		for _, l := range lists() {
			if got, e := code.IDs(s, l); got != s+listBytes(l) || e != api.OK {
				t.Errorf("IDs(%q, %v): % x, error %d, not % x", s, l, got, e, s+listBytes(l))
			}
		}
	}
}

// P2.1, ErrForm: a list with an invalid ID, wherever it stands, or one that does not increase, is not written.
func TestIDsRefusesInvalidLists(t *testing.T) {
	var bad [][]api.ID
	for _, id := range badIDs() {
		bad = append(bad, []api.ID{id})
		for place := range 3 {
			l := []api.ID{{Addr: 2, Inc: 3}, {Addr: 4, Inc: 1}, {Addr: 4, Inc: 9}}
			l[place] = id
			bad = append(bad, l)
		}
	}
	bad = append(bad,
		// They increase, but do not keep within the bounds of an ID.
		[]api.ID{{Addr: 0, Inc: 5}, {Addr: 3, Inc: 1}},
		[]api.ID{{Addr: 3, Inc: 1}, {Addr: 3, Inc: api.MaxInc + 1}},
		[]api.ID{{Addr: 3, Inc: 1}, {Addr: api.MaxAddr + 1, Inc: 1}},
		// They are valid, but do not increase.
		[]api.ID{{Addr: 3, Inc: 1}, {Addr: 3, Inc: 1}},
		[]api.ID{{Addr: 3, Inc: 2}, {Addr: 3, Inc: 1}},
		[]api.ID{{Addr: 3, Inc: 1}, {Addr: 2, Inc: 5}},
		[]api.ID{{Addr: 1, Inc: 1}, {Addr: 2, Inc: 1}, {Addr: 4, Inc: 1}, {Addr: 3, Inc: 1}},
		[]api.ID{{Addr: 2, Inc: 1}, {Addr: 1, Inc: 1}, {Addr: 3, Inc: 1}, {Addr: 4, Inc: 1}},
	)
	for _, s := range befores {
		for _, l := range bad {
			if got, e := code.IDs(s, l); got != s || e != api.ErrForm {
				t.Errorf("IDs(%q, %v): %q, error %d", s, l, got, e)
			}
		}
	}
}

// P2.1, ErrTooLarge: it comes before ErrForm.
func TestIDsRefusesLongLists(t *testing.T) {
	for _, l := range [][]api.ID{
		listOf(api.MaxList + 1),
		listOf(1000),
		make([]api.ID, api.MaxList+1),
		slices.Repeat([]api.ID{{Addr: 1, Inc: 1}}, api.MaxList+1),
	} {
		for _, s := range befores {
			if got, e := code.IDs(s, l); got != s || e != api.ErrTooLarge {
				t.Errorf("IDs(%q, a list of %d): %q, error %d", s, len(l), got, e)
			}
		}
	}
	if _, e := code.IDs("", slices.Repeat([]api.ID{{Addr: 1, Inc: 1}}, api.MaxList)); e != api.ErrForm {
		t.Errorf("IDs of MaxList that are the same: error %d", e)
	}
}

// P2.1: the list that is handed in stays as it is, its spare room included.
func TestIDsLeavesTheList(t *testing.T) {
	room := append(listOf(api.MaxList), api.ID{Addr: 7, Inc: 7})
	for n := range api.MaxList + 1 {
		l := slices.Clone(room)
		mustIDs(t, "", l[:n])
		if !slices.Equal(l, room) {
			t.Fatalf("IDs changed the list: %v", l)
		}
	}
}

// P2.5: different numbers have different bytes, none a prefix of another one's, and a greater one no fewer.
func TestNumbersAreUnique(t *testing.T) {
	l := numbers()
	for n := range 700 {
		l = append(l, n, 16384-350+n)
	}
	slices.Sort(l)
	l = slices.Compact(l)
	written := make([]string, len(l))
	for i, n := range l {
		written[i] = mustNum(t, "", n)
	}
	for i, a := range written {
		for k, b := range written {
			if i != k && strings.HasPrefix(b, a) {
				t.Fatalf("% x of %d begins % x of %d", a, l[i], b, l[k])
			}
			if i < k && len(a) > len(b) {
				t.Fatalf("% x of %d is longer than % x of %d", a, l[i], b, l[k])
			}
		}
	}
}

// P2.5: no more bytes than necessary.
func TestNumbersAreShort(t *testing.T) {
	for n := range 6 {
		for _, c := range []struct{ number, bytes int }{{power(n) - 1, n}, {power(n), n + 1}} {
			if got := len(mustNum(t, "", c.number)); got != max(1, c.bytes) {
				t.Errorf("%d has %d bytes, not %d", c.number, got, c.bytes)
			}
		}
	}
}
