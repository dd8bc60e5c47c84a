package code_test

import (
	"slices"
	"strings"
	"testing"

	"covey/api"
	"covey/code"
)

func TestExamplesOfReading(t *testing.T) {
	if n, e := code.Open("\x80\x00").Num(); n != 0 || e != api.ErrForm {
		t.Errorf("Num of 80 00: %d, error %d", n, e)
	}
	if n, e := code.Open("\x80").Num(); n != 0 || e != api.ErrShort {
		t.Errorf("Num of 80: %d, error %d", n, e)
	}
	l, e := code.Open("\x02\x01\x01\x02\x07").IDs()
	if !slices.Equal(l, []api.ID{{Addr: 1, Inc: 1}, {Addr: 2, Inc: 7}}) || e != api.OK {
		t.Errorf("IDs of 02 01 01 02 07: %v, error %d", l, e)
	}
}

// P2.1: Reader.Num, with the errors of the table: the first byte at which one applies decides.
func TestReaderNum(t *testing.T) {
	for _, c := range []struct {
		s    string
		n    int
		left int
		e    api.Errno
	}{
		{"\x00", 0, 0, api.OK},
		{"\x00\x00", 0, 1, api.OK},
		{"\x7f\xff", 127, 1, api.OK},
		{"\x80\x01", 128, 0, api.OK},
		{"\xac\x02\x05\x06", 300, 2, api.OK},
		{"\x80\x80\x80\x80\x80\x20", api.MaxNumber, 0, api.OK},
		{"\xff\xff\xff\xff\xff\x1f", api.MaxNumber - 1, 0, api.OK},
		{"\x80\x80\x80\x80\x80\x20\x80", api.MaxNumber, 1, api.OK},
		// No more bytes.
		{"", 0, 0, api.ErrShort},
		{"\x80\x80", 0, 0, api.ErrShort},
		{"\xff\xff\xff\xff\xff", 0, 0, api.ErrShort},
		{"\x80\x80\x80\x80\x80\x80", 0, 0, api.ErrShort},
		{"\x80\x80\x80\x80\x80\xa0", 0, 0, api.ErrShort}, // MaxNumber so far
		// More than MaxNumber, whether or not more bytes follow.
		{"\x81\x80\x80\x80\x80\x20", 0, 0, api.ErrForm},
		{"\x81\x80\x80\x80\x80\xa0", 0, 0, api.ErrForm},
		{"\x80\x80\x80\x80\x80\x21", 0, 0, api.ErrForm},
		{"\x80\x80\x80\x80\x80\x40", 0, 0, api.ErrForm},
		{"\xff\xff\xff\xff\xff\x7f", 0, 0, api.ErrForm},
		{"\xff\xff\xff\xff\xff\xff", 0, 0, api.ErrForm},
		// The seventh byte.
		{"\x80\x80\x80\x80\x80\x80\x00", 0, 0, api.ErrForm},
		{"\x80\x80\x80\x80\x80\x80\x01", 0, 0, api.ErrForm},
		{"\x80\x80\x80\x80\x80\x80\x80", 0, 0, api.ErrForm},
		{"\x81\x80\x80\x80\x80\x80\x80", 0, 0, api.ErrForm},
		{strings.Repeat("\x80", 1000), 0, 0, api.ErrForm},
		// The last one of several, and 0.
		{"\x80\x00", 0, 0, api.ErrForm},
		{"\xff\x00", 0, 0, api.ErrForm},
		{"\x80\x80\x00\x01", 0, 0, api.ErrForm},
		{"\x81\x80\x80\x80\x80\x00", 0, 0, api.ErrForm},
	} {
		r := code.Open(c.s)
		n, e := r.Num()
		if n != c.n || e != c.e || r.Left() != c.left {
			t.Errorf("Num of % x: %d, error %d, %d left", c.s, n, e, r.Left())
		}
		if e != api.OK {
			checkFailed(t, r, c.e)
		}
	}
}

// P2.1: Reader.ID, with the errors of the table: those of both numbers come first.
func TestReaderID(t *testing.T) {
	for _, c := range []struct {
		s    string
		id   api.ID
		left int
		e    api.Errno
	}{
		{"\x01\x01", api.ID{Addr: 1, Inc: 1}, 0, api.OK},
		{"\x0c\x80\x80\x40\x00", api.ID{Addr: api.MaxAddr, Inc: api.MaxInc}, 1, api.OK},
		{"", api.ID{}, 0, api.ErrShort},
		{"\x01", api.ID{}, 0, api.ErrShort},
		{"\x01\x80", api.ID{}, 0, api.ErrShort},
		{"\x00", api.ID{}, 0, api.ErrShort},
		{"\x0d\x80", api.ID{}, 0, api.ErrShort},
		{"\x80", api.ID{}, 0, api.ErrShort},
		{"\x80\x00\x01", api.ID{}, 0, api.ErrForm},
		{"\x01\x80\x00", api.ID{}, 0, api.ErrForm},
		{"\x00\x01", api.ID{}, 0, api.ErrForm},
		{"\x01\x00", api.ID{}, 0, api.ErrForm},
		{"\x00\x00", api.ID{}, 0, api.ErrForm},
		{"\x0d\x01", api.ID{}, 0, api.ErrForm},
		{"\x01\x81\x80\x40", api.ID{}, 0, api.ErrForm},
		{"\x81\x01\x01", api.ID{}, 0, api.ErrForm}, // the address 129
	} {
		r := code.Open(c.s)
		id, e := r.ID()
		if id != c.id || e != c.e || r.Left() != c.left {
			t.Errorf("ID of % x: %v, error %d, %d left", c.s, id, e, r.Left())
		}
		if e != api.OK {
			checkFailed(t, r, c.e)
		}
	}
}

// P2.1: Reader.IDs, with the errors of the table.
func TestReaderIDs(t *testing.T) {
	for _, c := range []struct {
		s    string
		l    []api.ID
		left int
		e    api.Errno
	}{
		{"\x00", nil, 0, api.OK},
		{"\x00\x01\x01", nil, 2, api.OK},
		{"\x01\x03\x05\x09", []api.ID{{Addr: 3, Inc: 5}}, 1, api.OK},
		{"\x02\x03\x05\x03\x06", []api.ID{{Addr: 3, Inc: 5}, {Addr: 3, Inc: 6}}, 0, api.OK},
		{"", nil, 0, api.ErrShort},
		{"\x80", nil, 0, api.ErrShort},
		{"\x01", nil, 0, api.ErrShort},
		{"\x01\x03", nil, 0, api.ErrShort},
		{"\x02\x03\x05\x03", nil, 0, api.ErrShort},
		{"\x40" + "\x01\x01", nil, 0, api.ErrShort},
		{"\x80\x00", nil, 0, api.ErrForm},
		{"\x01\x0d\x01", nil, 0, api.ErrForm},
		{"\x01\x01\x80\x00", nil, 0, api.ErrForm},
		{"\x02\x01\x01\x02\x00", nil, 0, api.ErrForm},
		// They do not increase.
		{"\x02\x03\x05\x03\x05", nil, 0, api.ErrForm},
		{"\x02\x03\x05\x03\x04", nil, 0, api.ErrForm},
		{"\x02\x03\x05\x02\x06", nil, 0, api.ErrForm},
		{"\x03\x01\x01\x03\x01\x02\x01", nil, 0, api.ErrForm},
		{"\x03\x02\x01\x01\x01\x03\x01", nil, 0, api.ErrForm},
		// That comes after the errors of numbers and IDs.
		{"\x03\x02\x01\x01\x01\x03", nil, 0, api.ErrShort},
		// More than MaxList.
		{"\x41", nil, 0, api.ErrTooLarge},
		{"\x41\x00", nil, 0, api.ErrTooLarge},
		{"\xc1\x01", nil, 0, api.ErrTooLarge},
		{"\x80\x80\x80\x80\x80\x20", nil, 0, api.ErrTooLarge},
		{listBytes(listOf(api.MaxList + 1)), nil, 0, api.ErrTooLarge},
	} {
		r := code.Open(c.s)
		l, e := r.IDs()
		if !slices.Equal(l, c.l) || e != c.e || r.Left() != c.left {
			t.Errorf("IDs of % x: %v, error %d, %d left", c.s, l, e, r.Left())
		}
		if e != api.OK {
			checkFailed(t, r, c.e)
		}
	}
}

// P2.1: no byte, any one, any two, and many threes are read as the chapter says.
func TestReadersOfAllShortBytes(t *testing.T) {
	for _, how := range readings() {
		checkRead(t, how, "")
		for a := range 256 {
			checkRead(t, how, string([]byte{byte(a)}))
			for b := range 256 {
				checkRead(t, how, string([]byte{byte(a), byte(b)}))
			}
		}
		for k := range 1 << 18 {
			// Of each byte the lowest five bits and the highest one vary: all short lists, and whether a number goes on.
			at := func(k int) byte { return byte(k&0x1f | k&0x20<<2) }
			checkRead(t, how, string([]byte{at(k), at(k >> 6), at(k >> 12)}))
		}
	}
}

// P2.1: bytes that are drawn, long numbers and lists among them, are read as the chapter says.
func TestReadersOfDrawnBytes(t *testing.T) {
	d := draw(3)
	choices := []byte{0, 1, 2, 3, 12, 13, 0x1f, 0x20, 0x21, 0x3f, 0x40, 0x41, 0x7f, 0x80, 0x81, 0xa0, 0xff}
	for range 200000 {
		b := make([]byte, d.below(12))
		for i := range b {
			b[i] = choices[d.below(len(choices))]
		}
		for _, how := range readings() {
			checkRead(t, how, string(b))
		}
	}
}

// P2.1: lists in which one byte is another one, or is missing, are read as the chapter says.
func TestReadersOfChangedLists(t *testing.T) {
	d := draw(4)
	for _, l := range lists() {
		s := listBytes(l)
		for i := range len(s) {
			checkRead(t, readings()[2], s[:i]+s[i+1:])
			for range 8 {
				checkRead(t, readings()[2], s[:i]+string([]byte{byte(d.below(256))})+s[i+1:])
			}
		}
	}
}

// P2.1, ErrNil.
func TestNilReader(t *testing.T) {
	checkFailed(t, nil, api.ErrNil)
}

// P2.1: each kind of call may be the first that fails; what comes after it fails in the same way.
func TestErrorsPersist(t *testing.T) {
	// A valid item follows, so that a reader that went on would find it.
	const valid = "\x01\x01\x01"
	for _, c := range []struct {
		name  string
		s     string
		first func(r *code.Reader) api.Errno
		want  api.Errno
	}{
		{"Num", "\x80\x00" + valid, func(r *code.Reader) api.Errno { _, e := r.Num(); return e }, api.ErrForm},
		{"ID", "\x0d\x01" + valid, func(r *code.Reader) api.Errno { _, e := r.ID(); return e }, api.ErrForm},
		{"IDs", "\x41" + valid, func(r *code.Reader) api.Errno { _, e := r.IDs(); return e }, api.ErrTooLarge},
		{"IDs", "\x02\x02\x01\x01\x01" + valid, func(r *code.Reader) api.Errno { _, e := r.IDs(); return e }, api.ErrForm},
		{"IDs", "\x02\x02\x01", func(r *code.Reader) api.Errno { _, e := r.IDs(); return e }, api.ErrShort},
		{"End", valid, (*code.Reader).End, api.ErrForm},
	} {
		r := code.Open(c.s)
		if e := c.first(r); e != c.want {
			t.Errorf("%s of % x: error %d, not %d", c.name, c.s, e, c.want)
		}
		checkFailed(t, r, c.want)
	}
}

// P2.1: Left counts down, and End is OK only when nothing is left; neither moves past anything.
func TestLeftAndEnd(t *testing.T) {
	s := "\x05\xac\x02\x01\x01\x01\x02\x03"
	r := code.Open(s)
	for i, read := range []func() api.Errno{
		func() api.Errno { _, e := r.Num(); return e },
		func() api.Errno { _, e := r.Num(); return e },
		func() api.Errno { _, e := r.IDs(); return e },
		func() api.Errno { _, e := r.ID(); return e },
	} {
		if got, want := r.Left(), []int{8, 7, 5, 2}[i]; got != want || r.Left() != want {
			t.Errorf("before item %d: %d left, not %d", i, got, want)
		}
		if e := read(); e != api.OK {
			t.Errorf("item %d: error %d", i, e)
		}
	}
	if r.Left() != 0 || r.End() != api.OK || r.End() != api.OK {
		t.Errorf("at the end: %d left, error %d", r.Left(), r.End())
	}
	// The end is no error, so that the next item is missing, as any other one would be.
	if _, e := r.Num(); e != api.ErrShort {
		t.Errorf("Num at the end: error %d", e)
	}
	checkFailed(t, r, api.ErrShort)
	if r := code.Open(""); r.Left() != 0 || r.End() != api.OK {
		t.Errorf("no bytes: %d left, error %d", r.Left(), r.End())
	}
}

// P2.1: readers do not disturb each other, and each list is in memory of its own.
func TestReadersAreApart(t *testing.T) {
	s := listBytes(listOf(9)) + listBytes(listOf(9))
	r, other := code.Open(s), code.Open(s)
	first, _ := r.IDs()
	second, _ := r.IDs()
	clear(first)
	_ = append(first, api.ID{Addr: 1, Inc: 1})
	if !slices.Equal(second, listOf(9)) {
		t.Errorf("the second list: %v", second)
	}
	if other.Left() != len(s) {
		t.Errorf("the other reader: %d left", other.Left())
	}
	if l, e := other.IDs(); !slices.Equal(l, listOf(9)) || e != api.OK {
		t.Errorf("the other reader's list: %v, error %d", l, e)
	}
}
