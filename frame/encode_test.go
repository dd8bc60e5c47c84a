package frame_test

import (
	"testing"

	"covey/api"
	"covey/frame"
)

// The chapter's examples.
func TestExamples(t *testing.T) {
	beat := api.Frame{Kind: api.Beat, From: id(1, 1), To: id(2, 1), N: 3}
	welcome := api.Frame{Kind: api.Welcome, From: id(1, 1), To: id(2, 1), View: api.View{Members: []api.Member{{ID: id(1, 1), Status: api.Up, No: 1}}}}
	for _, f := range []api.Frame{beat, welcome} {
		s, e := frame.Encode(f)
		g, d := frame.Decode(s)
		if e != api.OK || d != api.OK || !frame.Same(f, g) || !equal(f, g) {
			t.Errorf("%v is decoded as %v, %v, %v", f, g, e, d)
		}
	}
	if f, e := frame.Decode(""); e != api.ErrShort || !equal(f, api.Frame{}) {
		t.Errorf("Decode of no bytes: %v, %v", f, e)
	}
	if f, e := frame.Decode("\x00\x00\x00\x00"); e != api.ErrForm || !equal(f, api.Frame{}) {
		t.Errorf("Decode of four bytes 0: %v, %v", f, e)
	}
	beat.Token = 1
	if s, e := frame.Encode(beat); e != api.ErrForm || s != "" {
		t.Errorf("Encode of a Beat with a Token: % x, %v", s, e)
	}
}

// P11.1: the bytes of some frames, to the letter.
func TestBytes(t *testing.T) {
	for _, x := range []struct {
		f    api.Frame
		want string
	}{
		{api.Frame{Kind: api.Beat, From: id(1, 1), To: id(2, 1), N: 3}, "\x05\x01\x01\x02\x01\x03\x00\x00\x00\x00\x00\x00\x00\x00"},
		{api.Frame{Kind: api.Ask, From: id(12, 1048576), To: id(3, 0)}, "\x01\x0c\x80\x80\x40\x03\x00\x00\x00\x00\x00\x00\x00\x00\x00\x00"},
		{api.Frame{Kind: api.Grant, To: id(3, 7), N: 300, Token: 1 << 40}, "\x0c\x00\x00\x03\x07\xac\x02\x80\x80\x80\x80\x80\x20\x00\x00\x00\x00\x00\x00\x00"},
		{api.Frame{Kind: api.Fenced, From: id(1, 1), To: id(2, 1), About: id(4, 5)}, "\x07\x01\x01\x02\x01\x00\x00\x04\x05\x00\x00\x00\x00\x00"},
		{api.Frame{Kind: api.Gossip, From: id(1, 1), To: id(2, 1), View: api.View{
			Members: []api.Member{member(id(1, 1), api.Up, 2), member(id(5, 128), api.Down, 0)},
			Floors:  ids(id(5, 127)),
			Rows:    []api.Row{row(id(1, 1), 9, id(5, 128), id(6, 1)), row(id(2, 1), 1)},
			Clock:   []api.Tick{tick(id(1, 1), 10), tick(id(2, 1), 11), tick(id(3, 1), 200)},
			Seen:    ids(id(1, 1)),
		}}, "\x04\x01\x01\x02\x01\x00\x00\x00\x00" +
			"\x02\x01\x01\x03\x02\x05\x80\x01\x06\x00" +
			"\x01\x05\x7f" +
			"\x02\x01\x01\x09\x02\x05\x80\x01\x06\x01\x02\x01\x01\x00" +
			"\x03\x01\x01\x0a\x02\x01\x0b\x03\x01\xc8\x01" +
			"\x01\x01\x01"},
	} {
		if got := encoded(t, x.f); got != summed(x.want) {
			t.Errorf("Encode(%v): % x, not % x", x.f, got, summed(x.want))
		}
		if got, e := frame.Decode(summed(x.want)); e != api.OK || !equal(got, x.f) {
			t.Errorf("Decode(% x): %v, %v, not %v", summed(x.want), got, e, x.f)
		}
	}
}

// P11.1: the checksum, to the letter: its lowest byte comes first.
func TestChecksum(t *testing.T) {
	got := encoded(t, api.Frame{Kind: api.Beat, From: id(1, 1), To: id(2, 1), N: 3})
	if len(got) != 18 || got[14:] != "\x7a\x6c\x08\x9d" {
		t.Errorf("the checksum of a Beat: % x", got[14:])
	}
}

// P11.1, P11.2, P11.3: each frame has the bytes that the chapter names, is decoded as it was, and no other one has its bytes.
func TestBack(t *testing.T) {
	of := map[string]api.Frame{}
	for _, f := range append(every(), drawn(11, 60)...) {
		s, e := frame.Encode(f)
		if want, wantE := encodeOf(f); s != want || e != wantE {
			t.Fatalf("Encode(%v): % x, %v, not % x, %v", f, s, e, want, wantE)
		}
		if e != api.OK {
			continue
		}
		g, e := frame.Decode(s)
		if e != api.OK || !frame.Same(f, g) || !equal(f, g) || !frame.May(g) {
			t.Fatalf("%v is decoded as %v, %v", f, g, e)
		}
		if again := encoded(t, g); again != s {
			t.Fatalf("% x, decoded and encoded, are % x", s, again)
		}
		if other, is := of[s]; is && !frame.Same(f, other) {
			t.Fatalf("%v and %v have the same bytes", f, other)
		}
		of[s] = f
	}
	if len(of) < 700 {
		t.Errorf("only %d frames", len(of))
	}
}

// P11.3: of any two frames that are not the same in something, the bytes are not the same; those of the same are.
func TestUnique(t *testing.T) {
	all := drawn(12, 4)
	for _, f := range every() {
		if len(all) < 400 && fits(f.View) {
			all = append(all, f)
		}
	}
	var bytes []string
	for _, f := range all {
		bytes = append(bytes, encoded(t, f))
	}
	for i, f := range all {
		for k, g := range all {
			if frame.Same(f, g) != (bytes[i] == bytes[k]) {
				t.Fatalf("%v and %v are the same: %t; their bytes: % x, % x", f, g, frame.Same(f, g), bytes[i], bytes[k])
			}
		}
	}
}

// P11.1: an empty list and none are the same, and have the same bytes; what is decoded has none.
func TestEmptyLists(t *testing.T) {
	for _, kind := range kinds() {
		f := ordinary(kind)
		f.View = api.View{}
		g := f
		g.View = api.View{Members: []api.Member{}, Floors: ids(), Rows: []api.Row{}, Clock: []api.Tick{}, Seen: ids()}
		if s, other := encoded(t, f), encoded(t, g); s != other || !frame.May(g) || !frame.Same(f, g) || !frame.Same(g, f) {
			t.Errorf("Kind %d with empty lists: % x, not % x", kind, other, s)
		}
		d, e := frame.Decode(encoded(t, g))
		if v := d.View; e != api.OK || v.Members != nil || v.Floors != nil || v.Rows != nil || v.Clock != nil || v.Seen != nil {
			t.Errorf("Kind %d with empty lists is decoded as %v, %v", kind, d, e)
		}
	}
	f, g := ordinary(4), ordinary(4)
	f.View.Rows = []api.Row{row(a, 1)}
	g.View.Rows = []api.Row{{Of: a, Version: 1, Not: ids()}}
	f.View.Floors, g.View.Floors = nil, nil
	if encoded(t, f) != encoded(t, g) || !frame.Same(f, g) {
		t.Errorf("a row with an empty list")
	}
}

// P11.1: lists go up to MaxList. One more is not encoded: rows and ticks since their view is not valid, the others since they are too many.
func TestLongLists(t *testing.T) {
	base := api.Frame{Kind: 4, From: a, To: b}
	for _, x := range []struct {
		name string
		of   func(n int) api.View
		want api.Errno
	}{
		{"rows", func(n int) api.View { return api.View{Rows: rowsOf(long(n))} }, api.ErrForm},
		{"ticks", func(n int) api.View { return api.View{Clock: ticksOf(long(n))} }, api.ErrForm},
		{"Seen", func(n int) api.View { return api.View{Seen: long(n)} }, api.ErrTooLarge},
		{"one row", func(n int) api.View { return api.View{Rows: []api.Row{row(a, 1), row(b, 1, long(n)...)}} }, api.ErrTooLarge},
		{"Floors", func(n int) api.View { return api.View{Floors: long(12 + n - 64)} }, api.ErrForm},
		{"members", func(n int) api.View { return api.View{Members: membersOf(long(12 + n - 64))} }, api.ErrForm},
	} {
		for n := 60; n < 300; n++ {
			f := base
			f.View = x.of(n)
			want := x.want
			if n <= 64 {
				want = api.OK
			}
			s, e := frame.Encode(f)
			if e != want || (e == api.OK) != (s != "") {
				t.Fatalf("Encode of %s, %d: % x, %v, not %v", x.name, n, s, e, want)
			}
			checkMay(t, f)
			// What is not valid comes ahead of what is too much.
			f.N = 1
			if s, e := frame.Encode(f); e != api.ErrForm || s != "" {
				t.Fatalf("Encode of %s, %d, and N: % x, %v", x.name, n, s, e)
			}
		}
	}
	f := api.Frame{Kind: 3, From: a, To: b, View: api.View{Seen: long(64)}}
	encoded(t, f)
	f.View.Seen = long(65)
	if s, e := frame.Encode(f); e != api.ErrTooLarge || s != "" || !frame.May(f) {
		t.Errorf("Encode of a Status that 65 have seen: % x, %v", s, e)
	}
	f.View.Clock = ticksOf(long(65))
	if s, e := frame.Encode(f); e != api.ErrForm || s != "" {
		t.Errorf("Encode of a Status with 65 ticks that 65 have seen: % x, %v", s, e)
	}
}

// P11.1: a frame has MaxFrame bytes at most, its checksum included; no list of these is too long.
func TestSizes(t *testing.T) {
	for n := 8100; n < 8300; n++ {
		f := sized(t, n)
		s, e := frame.Encode(f)
		if n <= 8192 && (e != api.OK || len(s) != n) || n > 8192 && (e != api.ErrTooLarge || s != "") {
			t.Fatalf("Encode of %d bytes: %d, %v", n, len(s), e)
		}
		checkMay(t, f)
		g, e := frame.Decode(summed(bytesOf(f)))
		if n <= 8192 && (e != api.OK || !equal(f, g)) || n > 8192 && (e != api.ErrTooLarge || !equal(g, api.Frame{})) {
			t.Fatalf("Decode of %d bytes: %v", n, e)
		}
		f.From = c
		f.Token = 1
		if s, e := frame.Encode(f); e != api.ErrForm || s != "" {
			t.Fatalf("Encode of %d bytes, and Token: %v", n, e)
		}
	}
	for _, n := range []int{18, 100, 500, 1000, 4096, 8192, 10000, 14000} {
		checkMay(t, sized(t, n))
	}
	// All lists at once, as long as they may be.
	f := api.Frame{Kind: 4, From: a, To: b, View: api.View{Clock: ticksOf(long(64)), Seen: long(64)}}
	for _, of := range long(64) {
		f.View.Rows = append(f.View.Rows, row(of, mostNumber, long(63)...))
	}
	if s, e := frame.Encode(f); frame.May(f) || e != api.ErrForm || s != "" {
		t.Errorf("Encode of rows with their own IDs: %v", e)
	}
	for i := range f.View.Rows {
		f.View.Rows[i].Of.Inc += 500
	}
	if s, e := frame.Encode(f); !frame.May(f) || e != api.ErrTooLarge || s != "" {
		t.Errorf("Encode of 64 rows of 63: %v", e)
	}
}

// P11.1: May, Encode and Same answer whatever they are given, also much of it.
func TestMuch(t *testing.T) {
	many := long(100000)
	for _, v := range []api.View{
		{Members: membersOf(many)},
		{Floors: many},
		{Rows: rowsOf(many)},
		{Rows: []api.Row{row(a, 1, many...)}},
		{Clock: ticksOf(many)},
		{Seen: many},
		{Seen: many, Clock: ticksOf(many), Members: membersOf(many)},
	} {
		for _, kind := range []uint8{0, 1, 3, 4, 12, 255} {
			f := api.Frame{Kind: kind, From: a, To: b, View: v}
			if got := frame.May(f); got != mayOf(f) {
				t.Errorf("May of %d of Kind %d: %t", len(many), kind, got)
			}
			want := api.ErrForm
			if mayOf(f) {
				want = api.ErrTooLarge
			}
			if s, e := frame.Encode(f); s != "" || e != want {
				t.Errorf("Encode of %d of Kind %d: %d bytes, %v", len(many), kind, len(s), e)
			}
			if !frame.Same(f, f) || frame.Same(f, ordinary(3)) || frame.Same(ordinary(4), f) {
				t.Errorf("Same of %d of Kind %d", len(many), kind)
			}
		}
	}
}
