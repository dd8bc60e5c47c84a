package code

import "covey/api"

// Reader reads bytes from the first one on. Once a call has returned an error, each later one returns it, too.
type Reader struct {
	rest   string
	failed api.Errno
}

// Open returns a reader of the bytes of s.
func Open(s string) *Reader {
	return &Reader{rest: s}
}

// read answers what the given function reads. Every method goes through it, so that none of them can read without a reader, or after an error.
func read[T any](r *Reader, item func() (T, api.Errno)) (T, api.Errno) {
	var none T
	if r == nil {
		return none, api.ErrNil
	}
	if r.failed != api.OK {
		return none, r.failed
	}
	x, e := item()
	if e != api.OK {
		// Nobody can read the rest any more.
		r.rest, r.failed = "", e
		return none, e
	}
	return x, api.OK
}

// Num returns the next number, and moves past it.
func (r *Reader) Num() (int, api.Errno) {
	return read(r, func() (int, api.Errno) {
		n := 0
		for k := 0; ; k++ {
			if r.rest == "" {
				return 0, api.ErrShort
			}
			b := r.rest[0]
			r.rest = r.rest[1:]
			n += int(b%goesOn) << (bitsOfByte * k)
			switch {
			case n > api.MaxNumber || k == mostBytes || k > 0 && b == 0:
				return 0, api.ErrForm
			case b < goesOn:
				return n, api.OK
			}
		}
	})
}

// ID returns the next ID, and moves past it.
func (r *Reader) ID() (api.ID, api.Errno) {
	return read(r, func() (api.ID, api.Errno) {
		// An error of the first number persists: the call for the second one returns it, too.
		addr, _ := r.Num()
		inc, e := r.Num()
		id := api.ID{Addr: addr, Inc: inc}
		if e == api.OK && !validID(id) {
			e = api.ErrForm
		}
		return id, e
	})
}

// IDs returns the next list, and moves past it.
func (r *Reader) IDs() ([]api.ID, api.Errno) {
	return read(r, func() ([]api.ID, api.Errno) {
		n, e := r.Num()
		if e != api.OK {
			return nil, e
		}
		// None of a list that is too long is read: its number alone tells.
		if n > api.MaxList {
			return nil, api.ErrTooLarge
		}
		l := make([]api.ID, n)
		for i := range l {
			if l[i], e = r.ID(); e != api.OK {
				return nil, e
			}
		}
		if !rising(l) {
			return nil, api.ErrForm
		}
		return l, api.OK
	})
}

// Left returns how many bytes are left.
func (r *Reader) Left() int {
	n, _ := read(r, func() (int, api.Errno) { return len(r.rest), api.OK })
	return n
}

// End returns OK if all bytes were read.
func (r *Reader) End() api.Errno {
	_, e := read(r, func() (int, api.Errno) {
		if r.rest != "" {
			return 0, api.ErrForm
		}
		return 0, api.OK
	})
	return e
}
