package code_test

import (
	"slices"
	"testing"

	"covey/api"
	"covey/code"
)

// tails are bytes that may follow: none, a number, what reads as a number that goes on, what is no number.
var tails = []string{"", "\x00", "\x01\x01", "\x80", "\xff\xff", "\x80\x80\x80\x80\x80\x80\x80", "\x41"}

// P2.3: a number, an ID and a list are read back, whatever follows.
func TestBack(t *testing.T) {
	for _, tail := range tails {
		for _, n := range numbers() {
			r := code.Open(mustNum(t, "", n) + tail)
			if got, e := r.Num(); got != n || e != api.OK || r.Left() != len(tail) {
				t.Errorf("%d, and % x: %d, error %d, %d left", n, tail, got, e, r.Left())
			}
		}
		for _, id := range someIDs() {
			r := code.Open(mustID(t, "", id) + tail)
			if got, e := r.ID(); got != id || e != api.OK || r.Left() != len(tail) {
				t.Errorf("%v, and % x: %v, error %d, %d left", id, tail, got, e, r.Left())
			}
		}
		for _, l := range lists() {
			r := code.Open(mustIDs(t, "", l) + tail)
			if got, e := r.IDs(); !slices.Equal(got, l) || e != api.OK || r.Left() != len(tail) {
				t.Errorf("%v, and % x: %v, error %d, %d left", l, tail, got, e, r.Left())
			}
		}
	}
}

// P2.3: items of all types are read back, one after another.
func TestManyItemsBack(t *testing.T) {
	ns, ids, ls := numbers(), someIDs(), lists()
	s := ""
	for i := range 500 {
		s = mustNum(t, s, ns[i%len(ns)])
		s = mustID(t, s, ids[i%len(ids)])
		s = mustIDs(t, s, ls[i%len(ls)])
	}
	r := code.Open(s)
	for i := range 500 {
		if n, e := r.Num(); n != ns[i%len(ns)] || e != api.OK {
			t.Fatalf("round %d: number %d, error %d", i, n, e)
		}
		if id, e := r.ID(); id != ids[i%len(ids)] || e != api.OK {
			t.Fatalf("round %d: ID %v, error %d", i, id, e)
		}
		if l, e := r.IDs(); !slices.Equal(l, ls[i%len(ls)]) || e != api.OK {
			t.Fatalf("round %d: list %v, error %d", i, l, e)
		}
	}
	if r.End() != api.OK {
		t.Errorf("%d left, error %d", r.Left(), r.End())
	}
}

// P2.3: what is read from any bytes, written again, gives the bytes that were read.
func TestReadAndWrittenAgain(t *testing.T) {
	d := draw(5)
	choices := []byte{0, 1, 2, 2, 3, 4, 12, 0x20, 0x7f, 0x80, 0x81, 0xff}
	for range 200000 {
		b := make([]byte, 1+d.below(9))
		for i := range b {
			b[i] = choices[d.below(len(choices))]
		}
		s := string(b)
		r := code.Open(s)
		if n, e := r.Num(); e == api.OK {
			checkAgain(t, s, r.Left(), mustNum(t, "", n))
		}
		r = code.Open(s)
		if id, e := r.ID(); e == api.OK {
			checkAgain(t, s, r.Left(), mustID(t, "", id))
		}
		r = code.Open(s)
		if l, e := r.IDs(); e == api.OK {
			checkAgain(t, s, r.Left(), mustIDs(t, "", l))
		}
	}
}

func checkAgain(t *testing.T, s string, left int, again string) {
	t.Helper()
	if read := s[:len(s)-left]; read != again {
		t.Fatalf("% x was read, and % x is written", read, again)
	}
}

// P2.4: without their last byte, and without more of them, the bytes of an item cannot be read.
func TestShort(t *testing.T) {
	for _, n := range numbers() {
		checkCut(t, mustNum(t, "", n), func(r *code.Reader) api.Errno { _, e := r.Num(); return e })
	}
	for _, id := range someIDs() {
		checkCut(t, mustID(t, "", id), func(r *code.Reader) api.Errno { _, e := r.ID(); return e })
	}
	for _, l := range lists() {
		checkCut(t, mustIDs(t, "", l), func(r *code.Reader) api.Errno { _, e := r.IDs(); return e })
	}
}

func checkCut(t *testing.T, s string, read func(r *code.Reader) api.Errno) {
	t.Helper()
	for cut := range len(s) {
		r := code.Open(s[:cut])
		if e := read(r); e != api.ErrShort {
			t.Fatalf("% x, cut at %d: error %d", s, cut, e)
		}
		checkFailed(t, r, api.ErrShort)
	}
	// One byte too many: the item is read, but the end is not there.
	r := code.Open(s + "\x00")
	if e := read(r); e != api.OK || r.Left() != 1 || r.End() != api.ErrForm {
		t.Fatalf("% x and one more byte: error %d, %d left", s, e, r.Left())
	}
	checkFailed(t, r, api.ErrForm)
}
