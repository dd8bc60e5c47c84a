package frame_test

import (
	"strings"
	"testing"

	"covey/api"
	"covey/crc"
	"covey/frame"
)

// checkDecode holds bytes against the model; what is decoded is valid, and has these bytes (P11.2, P11.5).
func checkDecode(t *testing.T, s string) (decoded bool) {
	t.Helper()
	f, e := frame.Decode(s)
	if want, wantE := decodeOf(s); e != wantE || !equal(f, want) {
		t.Fatalf("Decode(% x): %v, %v, not %v, %v", s, f, e, want, wantE)
	}
	if e != api.OK {
		return false
	}
	if again := encoded(t, f); again != s || !frame.May(f) {
		t.Fatalf("% x, decoded and encoded, are % x", s, again)
	}
	return true
}

// refused holds that bytes are not those of a frame, with that error.
func refused(t *testing.T, s string, want api.Errno) {
	t.Helper()
	if f, e := frame.Decode(s); e != want || !equal(f, api.Frame{}) {
		t.Fatalf("Decode(% x): %v, %v, not error %d", s, f, e, int(want))
	}
	checkDecode(t, s)
}

// bodies are the bytes of valid frames of all Kinds, without their checksums.
func bodies() []string {
	var l []string
	for _, kind := range kinds() {
		l = append(l, bytesOf(ordinary(kind)))
	}
	for _, f := range drawn(21, 3) {
		if s := bytesOf(f); len(s) < 800 {
			l = append(l, s)
		}
	}
	return l
}

// P11.1: the errors in their order: too many bytes, too few, a wrong checksum, no frame.
func TestErrorsInOrder(t *testing.T) {
	beat := encoded(t, ordinary(5))
	for _, s := range []string{strings.Repeat("\x00", 8193), strings.Repeat("\xff", 8193), summed(strings.Repeat("\x01", 8189)), strings.Repeat(beat, 8193/len(beat)+1), summed(bytesOf(sized(t, 8193))), strings.Repeat("x", 1<<20)} {
		refused(t, s, api.ErrTooLarge)
	}
	for _, s := range []string{"", "\x00", "\x00\x00", "\x00\x00\x00", "\x01", "\x05\x01", "\xff\xff\xff", beat[:3]} {
		refused(t, s, api.ErrShort)
	}
	for _, s := range []string{"\x00\x00\x00\x01", "\x01\x00\x00\x00", "\xff\xff\xff\xff", "\x00\x00\x00\x00\x00", strings.Repeat("\x00", 8192), strings.Repeat("\xff", 8192), beat[:len(beat)-1], beat[1:], beat + "\x00", beat + beat, beat[:4], bytesOf(ordinary(5)), "no frame at all"} {
		refused(t, s, api.ErrSum)
	}
	for _, s := range []string{"\x00\x00\x00\x00", summed("\x05"), summed("\x00"), summed("no frame at all"), summed(strings.Repeat("\x00", 8188)), summed(strings.Repeat("\xff", 8188)), summed(strings.Repeat("\x01", 8188)), summed(beat), summed(beat + beat)} {
		refused(t, s, api.ErrForm)
	}
}

// P11.1: what is cut short, with a right checksum, is no frame; with a wrong one neither.
func TestCutShort(t *testing.T) {
	for _, s := range bodies() {
		for n := range len(s) {
			refused(t, summed(s[:n]), api.ErrForm)
			refused(t, summed(s[n+1:]), api.ErrForm)
			refused(t, summed(s)[:n+4], api.ErrSum)
		}
		checkDecode(t, summed(s))
	}
}

// P11.1: what goes on, with a right checksum, is no frame.
func TestGoesOn(t *testing.T) {
	for _, s := range bodies() {
		for _, more := range []string{"\x00", "\x01", "\x80", "\xff", "\x00\x00\x00\x00", "\x01\x01", s, summed(s)} {
			refused(t, summed(s+more), api.ErrForm)
		}
	}
}

// P11.1: a number that has more bytes than it needs, with a right checksum, is not that number.
func TestLongNumbers(t *testing.T) {
	for _, s := range bodies() {
		for i := range len(s) {
			if s[i] >= 128 {
				continue
			}
			longer := string([]byte{s[i] + 128})
			for range 7 {
				refused(t, summed(s[:i]+longer+"\x00"+s[i+1:]), api.ErrForm)
				longer += "\x80"
			}
		}
	}
}

// P11.1: a number that is too great is not taken for the one that its lowest bits are.
func TestGreatNumbers(t *testing.T) {
	// How a number of one byte goes on so that it is greater by 2^8, 2^16, 2^32, 2^40 and 2^64.
	on := []string{"\x02", "\x80\x04", "\x80\x80\x80\x10", "\x80\x80\x80\x80\x20", "\x80\x80\x80\x80\x80\x80\x80\x80\x02"}
	for _, s := range bodies() {
		for i := range len(s) {
			if s[i] >= 128 {
				continue
			}
			for _, more := range on {
				checkDecode(t, summed(s[:i]+string([]byte{s[i] + 128})+more+s[i+1:]))
			}
		}
	}
	for _, more := range on {
		// A Beat: its Kind, and its N.
		refused(t, summed("\x85"+more+"\x01\x01\x02\x01\x03\x00\x00\x00\x00\x00\x00\x00\x00"), api.ErrForm)
		if n := len(more); n < 5 {
			if !checkDecode(t, summed("\x05\x01\x01\x02\x01\x83"+more+"\x00\x00\x00\x00\x00\x00\x00\x00")) {
				t.Errorf("N with %d bytes more is refused", n)
			}
		} else {
			refused(t, summed("\x05\x01\x01\x02\x01\x83"+more+"\x00\x00\x00\x00\x00\x00\x00\x00"), api.ErrForm)
		}
		// A Welcome: the status of its member, and how many members there are.
		refused(t, summed("\x02\x01\x01\x02\x01\x00\x00\x00\x00\x01\x01\x01\x83"+more+"\x01\x00\x00\x00\x00"), api.ErrForm)
		refused(t, summed("\x02\x01\x01\x02\x01\x00\x00\x00\x00\x81"+more+"\x01\x01\x03\x01\x00\x00\x00\x00"), api.ErrForm)
	}
	if !checkDecode(t, summed("\x02\x01\x01\x02\x01\x00\x00\x00\x00\x01\x01\x01\x03\x01\x00\x00\x00\x00")) {
		t.Errorf("a Welcome with a member is refused")
	}
}

// P11.1: lists whose number is not that of their entries, or above MaxList, with a right checksum.
func TestNumbersOfEntries(t *testing.T) {
	head := "\x04\x01\x01\x02\x01\x00\x00\x00\x00"
	for _, x := range []struct {
		name       string
		pre, post  string
		entry      func(i int) string
		most, full int // how many are valid, how many are asked
	}{
		{"members", "", "\x00\x00\x00\x00", func(i int) string { return string([]byte{byte(i), 1, 3, 1}) }, 12, 80},
		{"floors", "\x00", "\x00\x00\x00", func(i int) string { return string([]byte{byte(i), 1}) }, 12, 80},
		{"rows", "\x00\x00", "\x00\x00", func(i int) string { return string([]byte{1, byte(i), 1, 0}) }, 64, 80},
		{"one row", "\x00\x00\x01\x01\x7f\x01", "\x00\x00", func(i int) string { return string([]byte{1, byte(i)}) }, 64, 80},
		{"ticks", "\x00\x00\x00", "\x00", func(i int) string { return string([]byte{2, byte(i), 1}) }, 64, 80},
		{"Seen", "\x00\x00\x00\x00", "", func(i int) string { return string([]byte{2, byte(i)}) }, 64, 80},
	} {
		entries := ""
		for n := 0; n <= x.full; n++ {
			if got := checkDecode(t, summed(head+x.pre+string([]byte{byte(n)})+entries+x.post)); got != (n <= x.most) {
				t.Fatalf("%s, %d: decoded: %t", x.name, n, got)
			}
			for _, count := range []string{"\x00", "\x01", "\x0c", "\x40", "\x41", "\x7f", "\xff\x7f", "\x80\x80\x80\x80\x80\x20", string([]byte{byte(n + 1)}), string([]byte{byte(n + 127)})} {
				checkDecode(t, summed(head+x.pre+count+entries+x.post))
				checkDecode(t, summed(head+x.pre+count+entries))
			}
			entries += x.entry(n + 1)
		}
	}
}

// P11.1, P11.5: the bytes of frames that are not valid, with a right checksum.
func TestInvalidFrames(t *testing.T) {
	n := 0
	for _, kind := range append(kinds(), 0, 14, 127, 128, 255) {
		for _, like := range append(kinds(), kind) {
			for _, bend := range bends() {
				f := bend(deep(ordinary(like)))
				f.Kind = kind
				if below(f) {
					continue
				}
				s := summed(bytesOf(f))
				got := checkDecode(t, s)
				if len(s) <= 8192 && got != (mayOf(f) && fits(f.View)) {
					t.Fatalf("Decode of %v: %t", f, got)
				}
				n++
			}
		}
	}
	if n < 10000 {
		t.Errorf("only %d frames", n)
	}
}

// below reports whether a number of a frame is below 0, so that it has no bytes.
func below(f api.Frame) bool {
	least := min(f.From.Addr, f.From.Inc, f.To.Addr, f.To.Inc, f.N, f.Token, f.About.Addr, f.About.Inc)
	for _, m := range f.View.Members {
		least = min(least, m.No)
	}
	for _, r := range f.View.Rows {
		least = min(least, r.Version)
	}
	for _, x := range f.View.Clock {
		least = min(least, x.N)
	}
	return least < 0
}

// P11.1: each byte changed to each other one, with a right checksum.
func TestEachByte(t *testing.T) {
	for _, kind := range kinds() {
		s := bytesOf(ordinary(kind))
		for i := range len(s) {
			for x := range 256 {
				checkDecode(t, summed(s[:i]+string([]byte{byte(x)})+s[i+1:]))
			}
		}
	}
}

// P11.1: any text, with a right checksum or not: bytes that are drawn, and those of frames with pieces taken out, put in, or exchanged.
func TestAnyText(t *testing.T) {
	d := draw(22)
	some := bodies()
	for range 30000 {
		b := make([]byte, d.below(40))
		for i := range b {
			b[i] = byte(d.below(1 << (1 + d.below(8))))
		}
		checkDecode(t, string(b))
		checkDecode(t, summed(string(b)))
	}
	decoded := 0
	for range 30000 {
		s, other := some[d.below(len(some))], some[d.below(len(some))]
		i, k := d.below(len(s)), d.below(len(other))
		for _, x := range []string{
			s[:i] + other[k:],
			s[:i] + s[i+d.below(len(s)-i):],
			s[:i] + other[k:k+d.below(min(6, len(other)-k))] + s[i:],
			s[:i] + string([]byte{byte(d.below(256))}) + s[min(len(s), i+d.below(3)):],
		} {
			if checkDecode(t, summed(x)) {
				decoded++
			}
			checkDecode(t, x)
		}
	}
	if decoded < 1000 {
		t.Errorf("only %d were frames", decoded)
	}
}

// P11.4: bytes of a frame that are bent so that they are different are none, wherever they are bent: in the frame, in its checksum, or in both.
func TestBent(t *testing.T) {
	d := draw(23)
	for _, f := range []api.Frame{ordinary(1), ordinary(2), ordinary(3), ordinary(5), ordinary(8), ordinary(12), ordinary(13)} {
		s := encoded(t, f)
		for at := -5; at < len(s)+2; at++ {
			l := []uint32{0, 0xffffffff, 0xff, 0xff00, 0xff0000, 0xff000000, 0xEDB88320, 0x04C11DB7, 0x82608EDB}
			for k := range 32 {
				l = append(l, 1<<k, ^uint32(1<<k))
			}
			for range 40 {
				l = append(l, uint32(d.below(1<<32)))
			}
			for _, x := range l {
				bent := crc.Bend(s, at, x)
				g, e := frame.Decode(bent)
				if bent == s && (e != api.OK || !equal(f, g)) || bent != s && (e != api.ErrSum || !equal(g, api.Frame{})) {
					t.Fatalf("Decode(% x), bent at %d by %08x: %v, %v", s, at, x, g, e)
				}
			}
		}
	}
}

// P11.4: drawn frames, and such of many bytes, bent anywhere.
func TestBentDrawn(t *testing.T) {
	d := draw(24)
	for _, f := range append(drawn(25, 40), sized(t, 8192), sized(t, 5000)) {
		s := encoded(t, f)
		for range 200 {
			bent := crc.Bend(s, d.below(len(s)+3)-3, uint32(d.below(1<<32)))
			g, e := frame.Decode(bent)
			if bent == s && (e != api.OK || !equal(f, g)) || bent != s && (e != api.ErrSum || !equal(g, api.Frame{})) {
				t.Fatalf("Decode(% x), bent to % x: %v, %v", s, bent, g, e)
			}
		}
	}
}
