package frame_test

import (
	"cmp"
	"encoding/binary"
	"hash/crc32"
	"slices"
	"strings"

	"covey/api"
)

// The chapter's terms in another way than the package has them. All limits, Kinds and statuses stand here as numbers, so that no constant, and no other layer, is taken on trust.

// shapes are the fields that frames of each Kind have.
var shapes = map[uint8]string{
	1:  "from to",       // Ask
	2:  "from to view",  // Welcome
	3:  "from to part",  // Status
	4:  "from to view",  // Gossip
	5:  "from to n",     // Beat
	6:  "from to n",     // Reply
	7:  "from to about", // Fenced
	8:  "from to about", // Confirm
	9:  "from n",        // Acquire
	10: "from n token",  // Renew
	11: "from token",    // Release
	12: "to n token",    // Grant
	13: "to n",          // Refuse
}

// mayOf reports whether a frame is valid: whether nothing is left of it without its valid fields.
func mayOf(f api.Frame) bool {
	left := f
	left.Kind = 0
	for _, word := range strings.Fields(shapes[f.Kind]) {
		ok := true
		switch word {
		case "from":
			ok, left.From = validID(f.From), api.ID{}
		case "to":
			ok, left.To = f.To.Inc == 0 && validID(id(f.To.Addr, 1)) || validID(f.To), api.ID{}
		case "n":
			ok, left.N = validNumber(f.N), 0
		case "token":
			ok, left.Token = validNumber(f.Token), 0
		case "about":
			ok, left.About = validID(f.About), api.ID{}
		case "part":
			part := api.View{Clock: f.View.Clock, Seen: f.View.Seen}
			ok, left.View.Clock, left.View.Seen = validView(part), nil, nil
		case "view":
			ok, left.View = validView(f.View), api.View{}
		}
		if !ok {
			return false
		}
	}
	return shapes[f.Kind] != "" && equal(left, api.Frame{})
}

func validID(x api.ID) bool {
	return x.Addr >= 1 && x.Addr <= 12 && x.Inc >= 1 && x.Inc <= 1048576
}

func validNumber(n int) bool { return n >= 0 && n <= 1099511627776 }

// validView reports whether a view is valid.
func validView(v api.View) bool {
	floors := map[int]int{}
	for _, x := range v.Floors {
		floors[x.Addr] = x.Inc
	}
	removed := func(x api.ID) bool { return x.Inc <= floors[x.Addr] }
	var all, owners, counted []api.ID
	for _, m := range v.Members {
		if !validMember(m) || removed(m.ID) {
			return false
		}
		all = append(all, m.ID)
	}
	for _, r := range v.Rows {
		if r.Version < 1 || !validNumber(r.Version) || !isSet(r.Not) || slices.ContainsFunc(append(r.Not[:len(r.Not):len(r.Not)], r.Of), removed) || slices.Contains(r.Not, r.Of) {
			return false
		}
		owners = append(owners, r.Of)
	}
	for _, x := range v.Clock {
		if x.N < 1 || !validNumber(x.N) {
			return false
		}
		counted = append(counted, x.Of)
	}
	sets := isSet(all) && isSet(v.Floors) && isSet(owners) && isSet(counted) && isSet(v.Seen)
	return sets && oneEach(all) && oneEach(v.Floors) && len(owners) <= 64 && len(counted) <= 64
}

func validMember(m api.Member) bool {
	switch m.Status {
	case 1, 2:
		return m.No == 0
	case 3, 4:
		return m.No >= 1 && validNumber(m.No)
	case 5, 6:
		return validNumber(m.No)
	}
	return false
}

// isSet reports whether a list increases, and contains valid IDs.
func isSet(l []api.ID) bool {
	for i, x := range l {
		if !validID(x) || i > 0 && cmp.Or(cmp.Compare(l[i-1].Addr, x.Addr), cmp.Compare(l[i-1].Inc, x.Inc)) >= 0 {
			return false
		}
	}
	return true
}

// oneEach reports whether there is at most one of each address.
func oneEach(l []api.ID) bool {
	n := map[int]int{}
	for _, x := range l {
		n[x.Addr]++
	}
	return len(n) == len(l)
}

// fits reports whether no list of a view is too long for a frame.
func fits(v api.View) bool {
	most := max(len(v.Members), len(v.Floors), len(v.Rows), len(v.Clock), len(v.Seen))
	for _, r := range v.Rows {
		most = max(most, len(r.Not))
	}
	return most <= 64
}

// bytesOf returns the bytes of a frame without the checksum, whether it is valid or not (no number of it may be below 0).
func bytesOf(f api.Frame) string {
	var b []byte
	nums := func(l ...int) {
		for _, n := range l {
			b = binary.AppendUvarint(b, uint64(n))
		}
	}
	list := func(l []api.ID) {
		nums(len(l))
		for _, x := range l {
			nums(x.Addr, x.Inc)
		}
	}
	v := f.View
	nums(int(f.Kind), f.From.Addr, f.From.Inc, f.To.Addr, f.To.Inc, f.N, f.Token, f.About.Addr, f.About.Inc, len(v.Members))
	for _, m := range v.Members {
		nums(m.ID.Addr, m.ID.Inc, int(m.Status), m.No)
	}
	list(v.Floors)
	nums(len(v.Rows))
	for _, r := range v.Rows {
		nums(r.Of.Addr, r.Of.Inc, r.Version)
		list(r.Not)
	}
	nums(len(v.Clock))
	for _, x := range v.Clock {
		nums(x.Of.Addr, x.Of.Inc, x.N)
	}
	list(v.Seen)
	return string(b)
}

// summed returns bytes followed by their checksum.
func summed(s string) string {
	return s + string(binary.LittleEndian.AppendUint32(nil, crc32.ChecksumIEEE([]byte(s))))
}

// encodeOf returns a frame's bytes.
func encodeOf(f api.Frame) (string, api.Errno) {
	if !mayOf(f) {
		return "", api.ErrForm
	}
	if !fits(f.View) || len(summed(bytesOf(f))) > 8192 {
		return "", api.ErrTooLarge
	}
	return summed(bytesOf(f)), api.OK
}

// decodeOf returns the frame with some bytes: whatever they may be taken for is one only if it is valid, and has just these bytes.
func decodeOf(s string) (api.Frame, api.Errno) {
	if len(s) > 8192 {
		return api.Frame{}, api.ErrTooLarge
	}
	if len(s) < 4 {
		return api.Frame{}, api.ErrShort
	}
	if summed(s[:len(s)-4]) != s {
		return api.Frame{}, api.ErrSum
	}
	f := takenFor([]byte(s[:len(s)-4]))
	if again, e := encodeOf(f); e != api.OK || again != s {
		return api.Frame{}, api.ErrForm
	}
	return f, api.OK
}

// takenFor returns a frame that has these bytes, if they are those of one; otherwise anything.
func takenFor(b []byte) api.Frame {
	num := func() int {
		n, size := binary.Uvarint(b)
		if size <= 0 {
			b = nil
			return 0
		}
		b = b[size:]
		return int(n)
	}
	some := func(each func()) {
		for n := num(); n > 0 && len(b) > 0; n-- {
			each()
		}
	}
	read := func() api.ID { addr := num(); return id(addr, num()) }
	var f api.Frame
	f.Kind, f.From, f.To, f.N, f.Token, f.About = uint8(num()), read(), read(), num(), num(), read()
	v := &f.View
	some(func() {
		x, status := read(), num()
		v.Members = append(v.Members, api.Member{ID: x, Status: uint8(status), No: num()})
	})
	some(func() { v.Floors = append(v.Floors, read()) })
	some(func() {
		r := api.Row{Of: read(), Version: num()}
		some(func() { r.Not = append(r.Not, read()) })
		v.Rows = append(v.Rows, r)
	})
	some(func() { v.Clock = append(v.Clock, api.Tick{Of: read(), N: num()}) })
	some(func() { v.Seen = append(v.Seen, read()) })
	return f
}

// equal reports whether frames are the same; empty lists are.
func equal(a, b api.Frame) bool {
	v, w := a.View, b.View
	return a.Kind == b.Kind && a.From == b.From && a.To == b.To && a.N == b.N && a.Token == b.Token && a.About == b.About &&
		slices.Equal(v.Members, w.Members) && slices.Equal(v.Floors, w.Floors) && slices.Equal(v.Clock, w.Clock) && slices.Equal(v.Seen, w.Seen) &&
		slices.EqualFunc(v.Rows, w.Rows, func(r, s api.Row) bool {
			return r.Of == s.Of && r.Version == s.Version && slices.Equal(r.Not, s.Not)
		})
}
