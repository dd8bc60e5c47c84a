package frame

import (
	"math"

	"covey/api"
	"covey/code"
)

// reader reads the bytes of a frame's fields. What cannot be read is 0, and then nothing of the frame counts.
type reader struct {
	from   *code.Reader
	failed bool
}

// read returns the frame whose fields have these bytes, valid or not, and whether they could be read.
func read(s string) (api.Frame, bool) {
	r := &reader{from: code.Open(s)}
	var f api.Frame
	f.Kind = r.small()
	f.From = r.id()
	f.To = r.id()
	f.N = r.num()
	f.Token = r.num()
	f.About = r.id()
	f.View = r.view()
	return f, !r.failed && r.from.End() == api.OK
}

// num reads a number.
func (r *reader) num() int {
	return r.upTo(api.MaxNumber)
}

// upTo reads a number that is not greater than some other one.
func (r *reader) upTo(most int) int {
	n, e := r.from.Num()
	if e != api.OK || n > most {
		r.failed = true
		return 0
	}
	return n
}

// small reads a Kind, or a status. A greater number must not become one of them by wrap-round.
func (r *reader) small() uint8 {
	return uint8(r.upTo(math.MaxUint8))
}

// id reads both numbers of an ID by themselves, as they are written.
func (r *reader) id() api.ID {
	addr := r.num()
	return api.ID{Addr: addr, Inc: r.num()}
}

func (r *reader) view() api.View {
	var v api.View
	v.Members = list(r, func() api.Member {
		id := r.id()
		status := r.small()
		return api.Member{ID: id, Status: status, No: r.num()}
	})
	v.Floors = list(r, r.id)
	v.Rows = list(r, func() api.Row {
		of := r.id()
		version := r.num()
		return api.Row{Of: of, Version: version, Not: list(r, r.id)}
	})
	v.Clock = list(r, func() api.Tick {
		of := r.id()
		return api.Tick{Of: of, N: r.num()}
	})
	v.Seen = list(r, r.id)
	return v
}

// list reads a list: how many entries there are, and each of them.
func list[T any](r *reader, entry func() T) []T {
	var l []T
	for range r.upTo(api.MaxList) {
		l = append(l, entry())
	}
	return l
}
