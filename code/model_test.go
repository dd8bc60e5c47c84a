package code_test

import (
	"slices"
	"testing"

	"covey/api"
	"covey/code"
)

// The bytes as the chapter's terms give them, made in another way than by the package: by division, from the last byte back.

func numBytes(n int) string {
	s := string([]byte{byte(n / power(places(n)-1))})
	for k := places(n) - 2; k >= 0; k-- {
		s = string([]byte{byte(128 + n/power(k)%128)}) + s
	}
	return s
}

// places returns how many digits to the base 128 a number has.
func places(n int) int {
	k := 1
	for n >= power(k) {
		k++
	}
	return k
}

func power(k int) int {
	p := 1
	for range k {
		p *= 128
	}
	return p
}

func idBytes(id api.ID) string { return numBytes(id.Addr) + numBytes(id.Inc) }

func listBytes(l []api.ID) string {
	s := numBytes(len(l))
	for _, id := range l {
		s += idBytes(id)
	}
	return s
}

// modelNum reads a number: the bytes after it, or the error that the chapter's table names.
func modelNum(s string) (n int, rest string, e api.Errno) {
	for k := 0; ; k++ {
		if k == len(s) {
			return 0, "", api.ErrShort
		}
		if k == 6 {
			return 0, "", api.ErrForm
		}
		n += int(s[k]%128) * power(k)
		if n > 1099511627776 {
			return 0, "", api.ErrForm
		}
		if s[k] == 0 && k > 0 {
			return 0, "", api.ErrForm
		}
		if s[k] < 128 {
			return n, s[k+1:], api.OK
		}
	}
}

func modelID(s string) (api.ID, string, api.Errno) {
	addr, s, e := modelNum(s)
	if e != api.OK {
		return api.ID{}, "", e
	}
	inc, s, e := modelNum(s)
	if e != api.OK {
		return api.ID{}, "", e
	}
	if addr < 1 || addr > 12 || inc < 1 || inc > 1048576 {
		return api.ID{}, "", api.ErrForm
	}
	return api.ID{Addr: addr, Inc: inc}, s, api.OK
}

func modelIDs(s string) ([]api.ID, string, api.Errno) {
	n, s, e := modelNum(s)
	if e != api.OK {
		return nil, "", e
	}
	if n > 64 {
		return nil, "", api.ErrTooLarge
	}
	var l []api.ID
	for range n {
		var id api.ID
		if id, s, e = modelID(s); e != api.OK {
			return nil, "", e
		}
		l = append(l, id)
	}
	for i := range l[:max(0, n-1)] {
		a, b := l[i], l[i+1]
		if a.Addr > b.Addr || a.Addr == b.Addr && a.Inc >= b.Inc {
			return nil, "", api.ErrForm
		}
	}
	return l, s, api.OK
}

// draw returns the next one of a fixed sequence of numbers.
type draw uint64

func (d *draw) below(n int) int {
	*d = *d*6364136223846793005 + 1442695040888963407
	return int(uint64(*d)>>20) % n
}

// numbers are the edges of each length of bytes, the limits, and others.
func numbers() []int {
	l := []int{0, 1, 2, 5, 63, 64, 65, 100, 126, 127, 128, 129, 255, 256, 300, api.MaxInc - 1, api.MaxInc, api.MaxInc + 1, api.MaxNumber - 1, api.MaxNumber}
	for k := 1; k < 6; k++ {
		l = append(l, power(k)-1, power(k), power(k)+1)
	}
	d := draw(1)
	for range 300 {
		l = append(l, d.below(1<<(1+d.below(40))))
	}
	return l
}

// someIDs are the corners of what an ID may be, and others.
func someIDs() []api.ID {
	l := []api.ID{{Addr: 1, Inc: 1}, {Addr: 1, Inc: api.MaxInc}, {Addr: api.MaxAddr, Inc: 1}, {Addr: api.MaxAddr, Inc: api.MaxInc}, {Addr: 2, Inc: 7}, {Addr: 5, Inc: 127}, {Addr: 5, Inc: 128}, {Addr: 5, Inc: 16383}, {Addr: 5, Inc: 16384}}
	d := draw(2)
	for range 100 {
		l = append(l, api.ID{Addr: 1 + d.below(api.MaxAddr), Inc: 1 + d.below(1<<(1+d.below(20)))})
	}
	return l
}

// badIDs are just outside on each side, and far outside.
func badIDs() []api.ID {
	return []api.ID{{}, {Addr: 0, Inc: 1}, {Addr: 1, Inc: 0}, {Addr: -1, Inc: 1}, {Addr: 1, Inc: -1}, {Addr: api.MaxAddr + 1, Inc: 1}, {Addr: 1, Inc: api.MaxInc + 1}, {Addr: api.MaxAddr + 1, Inc: api.MaxInc + 1}, {Addr: api.MaxNumber + 1, Inc: 1}, {Addr: 1, Inc: api.MaxNumber + 1}, {Addr: 1 << 62, Inc: 1}, {Addr: 1, Inc: -1 << 63}}
}

// listOf returns n IDs in increasing order.
func listOf(n int) []api.ID {
	l := make([]api.ID, n)
	for i := range l {
		l[i] = api.ID{Addr: 1 + i*api.MaxAddr/max(n, 1), Inc: 1 + i*997}
	}
	return l
}

// lists are valid ones of every length, and some of two lives of an address.
func lists() [][]api.ID {
	l := [][]api.ID{nil, {}, {{Addr: 1, Inc: 1}, {Addr: 2, Inc: 7}}, {{Addr: 3, Inc: 1}, {Addr: 3, Inc: 2}, {Addr: 9, Inc: 1}}, {{Addr: 1, Inc: api.MaxInc}, {Addr: 2, Inc: 1}}, {{Addr: api.MaxAddr, Inc: api.MaxInc}}}
	for n := range api.MaxList + 1 {
		l = append(l, listOf(n))
	}
	return l
}

// The calls for what is known to be valid.

func mustNum(t *testing.T, s string, n int) string {
	t.Helper()
	return must(t, n)(code.Num(s, n))
}

func mustID(t *testing.T, s string, id api.ID) string {
	t.Helper()
	return must(t, id)(code.ID(s, id))
}

func mustIDs(t *testing.T, s string, l []api.ID) string {
	t.Helper()
	return must(t, l)(code.IDs(s, l))
}

func must[T any](t *testing.T, what T) func(string, api.Errno) string {
	t.Helper()
	return func(s string, e api.Errno) string {
		t.Helper()
		if e != api.OK {
			t.Fatalf("%v is refused: %v", what, e)
		}
		return s
	}
}

// reading is a way to read an item, with the model's way beside it: is tells whether both have the same result, the rest is what the model leaves.
type reading struct {
	name string
	read func(r *code.Reader, s string) (is bool, rest string, want, got api.Errno)
}

func readings() []reading {
	return []reading{
		{"Num", func(r *code.Reader, s string) (bool, string, api.Errno, api.Errno) {
			want, rest, e := modelNum(s)
			got, f := r.Num()
			return got == want, rest, e, f
		}},
		{"ID", func(r *code.Reader, s string) (bool, string, api.Errno, api.Errno) {
			want, rest, e := modelID(s)
			got, f := r.ID()
			return got == want, rest, e, f
		}},
		{"IDs", func(r *code.Reader, s string) (bool, string, api.Errno, api.Errno) {
			want, rest, e := modelIDs(s)
			got, f := r.IDs()
			return slices.Equal(got, want), rest, e, f
		}},
	}
}

// checkRead reads s in one way, and holds it against the model.
func checkRead(t *testing.T, how reading, s string) {
	t.Helper()
	r := code.Open(s)
	is, rest, want, got := how.read(r, s)
	if !is || got != want {
		t.Fatalf("%s of % x: the right result: %t, error %d, not %d", how.name, s, is, got, want)
	}
	if r.Left() != len(rest) {
		t.Fatalf("%s of % x: %d bytes left, not %d", how.name, s, r.Left(), len(rest))
	}
	if want != api.OK {
		checkFailed(t, r, want)
	}
}

// checkFailed holds that each call of a reader returns that error, and nothing else.
func checkFailed(t *testing.T, r *code.Reader, want api.Errno) {
	t.Helper()
	for range 2 {
		if n, e := r.Num(); n != 0 || e != want {
			t.Fatalf("Num: %d, error %d, not %d", n, e, want)
		}
		if id, e := r.ID(); id != (api.ID{}) || e != want {
			t.Fatalf("ID: %v, error %d, not %d", id, e, want)
		}
		if l, e := r.IDs(); len(l) != 0 || e != want {
			t.Fatalf("IDs: %v, error %d, not %d", l, e, want)
		}
		if n := r.Left(); n != 0 {
			t.Fatalf("Left: %d", n)
		}
		if e := r.End(); e != want {
			t.Fatalf("End: error %d, not %d", e, want)
		}
	}
}
