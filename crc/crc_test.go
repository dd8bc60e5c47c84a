package crc_test

import (
	"hash/crc32"
	"math"
	"strings"
	"testing"

	"covey/crc"
)

// byDefinition goes bit by bit, as the chapter's terms say.
func byDefinition(s string) uint32 {
	state := ^uint32(0)
	for i := range len(s) {
		state ^= uint32(s[i])
		for range 8 {
			out := state & 1
			state >>= 1
			if out == 1 {
				state ^= 0xEDB88320
			}
		}
	}
	return ^state
}

// bentByDefinition changes each byte by the bits that the chapter's terms give it.
func bentByDefinition(s string, at int, x uint32) string {
	b := []byte(s)
	for i := range b {
		for k := range 4 {
			if i-k == at {
				b[i] ^= byte(x >> (8 * k))
			}
		}
	}
	return string(b)
}

// draw returns the next one of a fixed sequence of numbers.
type draw uint64

func (d *draw) next() uint32 {
	*d = *d*6364136223846793005 + 1442695040888963407
	return uint32(*d >> 32)
}

func (d *draw) text(n int) string {
	b := make([]byte, n)
	for i := range b {
		b[i] = byte(d.next() >> 8)
	}
	return string(b)
}

// texts are ordinary ones, no bytes, zeros, ones, what is no UTF-8, and every length up to 70.
func texts() []string {
	l := []string{"", "a", "abcd", "123456789", "\x00", "\x00\x00\x00\x00", "\xff", "\xff\xff\xff\xff", "\xc3\x28\x80", "ein Knäuel", strings.Repeat("\x00", 300), strings.Repeat("covey", 1000)}
	d := draw(1)
	for n := range 71 {
		l = append(l, d.text(n))
	}
	return l
}

// bends are numbers to bend by: nothing, each single byte, each bit, all, and others.
func bends() []uint32 {
	l := []uint32{0, 0xff, 0xff00, 0xff0000, 0xff000000, 0xffffffff, 0x04030201, 0xEDB88320}
	for k := range 32 {
		l = append(l, 1<<k)
	}
	d := draw(2)
	for range 20 {
		l = append(l, d.next())
	}
	return l
}

func TestExamples(t *testing.T) {
	if got := crc.Sum(""); got != 0 {
		t.Errorf("Sum of no bytes: %08X", got)
	}
	if got := crc.Sum("123456789"); got != 0xCBF43926 {
		t.Errorf("Sum of 123456789: %08X", got)
	}
	if got := crc.Bend("abcd", 1, 0); got != "abcd" {
		t.Errorf("Bend at 1 by 0: %q", got)
	}
	for _, x := range bends() {
		if got := crc.Bend("abcd", 4, x); got != "abcd" {
			t.Errorf("Bend at 4 by %08X: %q", x, got)
		}
	}
}

// P1.1: Sum.
func TestSumIsTheChecksum(t *testing.T) {
	for _, s := range texts() {
		if got, want := crc.Sum(s), byDefinition(s); got != want {
			t.Errorf("Sum(%q): %08X, not %08X", s, got, want)
		}
	}
	for b := range 256 {
		s := string([]byte{byte(b)})
		if got, want := crc.Sum(s), byDefinition(s); got != want {
			t.Errorf("Sum(%q): %08X, not %08X", s, got, want)
		}
	}
}

// P1.1: Sum of as many bytes as a thousand frames have.
func TestSumOfALongText(t *testing.T) {
	d := draw(3)
	s := d.text(1 << 23)
	if got, want := crc.Sum(s), crc32.ChecksumIEEE([]byte(s)); got != want {
		t.Errorf("Sum: %08X, not %08X", got, want)
	}
}

// P1.1: Add.
func TestAddContinues(t *testing.T) {
	for _, s := range texts() {
		if got, want := crc.Add(0, s), byDefinition(s); got != want {
			t.Errorf("Add(0, %q): %08X, not %08X", s, got, want)
		}
		for _, before := range []string{"", "x", "\x00\xff", "seed"} {
			if got, want := crc.Add(byDefinition(before), s), byDefinition(before+s); got != want {
				t.Errorf("Add(of %q, %q): %08X, not %08X", before, s, got, want)
			}
		}
	}
}

// P1.1: Add to any number whatever: each of them is the checksum of some four bytes.
func TestAddToAnyNumber(t *testing.T) {
	for _, sum := range bends() {
		if got := crc.Add(sum, ""); got != sum {
			t.Errorf("Add(%08X, no bytes): %08X", sum, got)
		}
		want := crc32.Update(sum, crc32.IEEETable, []byte("123456789"))
		if got := crc.Add(sum, "123456789"); got != want {
			t.Errorf("Add(%08X, 123456789): %08X, not %08X", sum, got, want)
		}
	}
}

// P1.1: Bend, with every place about both ends.
func TestBendChangesFourBytes(t *testing.T) {
	for _, s := range []string{"", "a", "ab", "abc", "abcd", "abcdefgh", "\x00\xff\x80\x7f\x01", "12345678901234567890"} {
		for at := -6; at <= len(s)+6; at++ {
			for _, x := range bends() {
				if got, want := crc.Bend(s, at, x), bentByDefinition(s, at, x); got != want {
					t.Errorf("Bend(%q, %d, %08X): %q, not %q", s, at, x, got, want)
				}
			}
		}
	}
}

// P1.1: the lowest 8 bits change the byte at the place, the next ones those after it.
func TestBendAtTheEnds(t *testing.T) {
	const x = 0x04030201
	for _, c := range []struct {
		at   int
		want string
	}{
		{-5, "\x00\x00\x00\x00\x00\x00"},
		{-4, "\x00\x00\x00\x00\x00\x00"},
		{-3, "\x04\x00\x00\x00\x00\x00"},
		{-2, "\x03\x04\x00\x00\x00\x00"},
		{-1, "\x02\x03\x04\x00\x00\x00"},
		{0, "\x01\x02\x03\x04\x00\x00"},
		{1, "\x00\x01\x02\x03\x04\x00"},
		{2, "\x00\x00\x01\x02\x03\x04"},
		{3, "\x00\x00\x00\x01\x02\x03"},
		{4, "\x00\x00\x00\x00\x01\x02"},
		{5, "\x00\x00\x00\x00\x00\x01"},
		{6, "\x00\x00\x00\x00\x00\x00"},
		{7, "\x00\x00\x00\x00\x00\x00"},
	} {
		if got := crc.Bend("\x00\x00\x00\x00\x00\x00", c.at, x); got != c.want {
			t.Errorf("Bend at %d: %q, not %q", c.at, got, c.want)
		}
	}
}

// P1.1: places far outside are ignored, those at which counting on wraps round, too.
func TestBendFarOutside(t *testing.T) {
	places := []int{math.MinInt, math.MinInt + 1, math.MinInt + 3, math.MinInt + 4, math.MinInt32, -1 << 20, 1 << 20, math.MaxInt32, math.MaxInt - 4, math.MaxInt - 3, math.MaxInt - 2, math.MaxInt - 1, math.MaxInt}
	for _, s := range []string{"", "a", "abcdefgh"} {
		for _, at := range places {
			if got := crc.Bend(s, at, 0xffffffff); got != s {
				t.Errorf("Bend(%q, %d): %q", s, at, got)
			}
		}
	}
}

// P1.2: in pieces.
func TestSumInPieces(t *testing.T) {
	for _, s := range texts() {
		for cut := 0; cut <= len(s); cut += 1 + len(s)/60 {
			if got, want := crc.Add(crc.Sum(s[:cut]), s[cut:]), crc.Sum(s); got != want {
				t.Errorf("%q, cut at %d: %08X, not %08X", s, cut, got, want)
			}
		}
		var sum uint32
		for i := range len(s) {
			sum = crc.Add(sum, s[i:i+1])
		}
		if want := crc.Sum(s); sum != want {
			t.Errorf("%q, byte by byte: %08X, not %08X", s, sum, want)
		}
	}
}

// combined returns three texts of equal length, combined byte by byte.
func combined(a, b, c string) string {
	out := make([]byte, len(a))
	for i := range out {
		out[i] = a[i] ^ b[i] ^ c[i]
	}
	return string(out)
}

// P1.3: combined.
func TestSumsCombined(t *testing.T) {
	d := draw(4)
	for n := range 100 {
		a, b, c := d.text(n), d.text(n), d.text(n)
		got, want := crc.Sum(combined(a, b, c)), crc.Sum(a)^crc.Sum(b)^crc.Sum(c)
		if got != want {
			t.Errorf("%q, %q, %q: %08X, not %08X", a, b, c, got, want)
		}
	}
}

// P1.4: what is bent has another checksum, if it is another text.
func TestBentHasAnotherSum(t *testing.T) {
	d := draw(5)
	for _, s := range []string{"", "a", "abc", "abcd", "\x00\x00\x00\x00\x00", d.text(40)} {
		sum := crc.Sum(s)
		for at := -4; at <= len(s)+1; at++ {
			for _, x := range bends() {
				bent := crc.Bend(s, at, x)
				if same := crc.Sum(bent) == sum; same != (bent == s) {
					t.Errorf("Bend(%q, %d, %08X) = %q: same checksum: %t", s, at, x, bent, same)
				}
			}
		}
	}
}

// P1.4: texts that differ only within four consecutive bytes have different checksums.
func TestFourBytesGiveDifferentSums(t *testing.T) {
	const n = 1 << 12
	d := draw(6)
	for _, ends := range [][2]string{{"", ""}, {"head", ""}, {"", "tail"}, {"some bytes", "and others"}} {
		seen := map[uint32]string{}
		for i := range n {
			middle := d.text(4)
			if i < 256 {
				middle = strings.Repeat(string([]byte{byte(i)}), 4)
			}
			sum := crc.Sum(ends[0] + middle + ends[1])
			if other, is := seen[sum]; is && other != middle {
				t.Errorf("%q and %q between %q: the same checksum %08X", other, middle, ends, sum)
			}
			seen[sum] = middle
		}
	}
}

// P1.5: bending twice restores the text; the length and all else stay.
func TestBendTwiceGoesBack(t *testing.T) {
	d := draw(7)
	for _, s := range []string{"", "a", "abcd", "\xff\x00\xfe", d.text(33)} {
		for at := -5; at <= len(s)+2; at++ {
			for _, x := range bends() {
				checkBack(t, s, at, x)
			}
		}
	}
}

func checkBack(t *testing.T, s string, at int, x uint32) {
	t.Helper()
	bent := crc.Bend(s, at, x)
	if len(bent) != len(s) {
		t.Fatalf("Bend(%q, %d, %08X): %d bytes, not %d", s, at, x, len(bent), len(s))
	}
	for i := range len(s) {
		if (i < at || i > at+3) && bent[i] != s[i] {
			t.Errorf("Bend(%q, %d, %08X): byte %d is changed", s, at, x, i)
		}
	}
	if back := crc.Bend(bent, at, x); back != s {
		t.Errorf("Bend(%q, %d, %08X), twice: %q", s, at, x, back)
	}
}

// A text that is handed in stays what it was, also where it is a piece of another one.
func TestBendLeavesItsArgument(t *testing.T) {
	whole := strings.Clone("abcdefgh")
	piece := whole[2:6]
	if got := crc.Bend(piece, 0, 0xffffffff); got == piece {
		t.Errorf("Bend: %q", got)
	}
	if whole != "abcdefgh" || piece != "cdef" {
		t.Errorf("the argument is %q in %q", piece, whole)
	}
}
