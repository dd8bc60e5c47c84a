package frame

import (
	"covey/api"
	"covey/code"
)

// writer gathers the bytes of a frame's fields. Once something has no bytes, that error stays.
type writer struct {
	bytes  []byte
	failed api.Errno
}

// written returns the bytes of all fields of a valid frame.
func written(f api.Frame) (string, api.Errno) {
	var w writer
	w.num(int(f.Kind))
	w.id(f.From)
	w.id(f.To)
	w.num(f.N)
	w.num(f.Token)
	w.id(f.About)
	w.view(f.View)
	if w.failed != api.OK {
		return "", w.failed
	}
	return string(w.bytes), api.OK
}

// put appends the bytes of something, if it has some.
func (w *writer) put(s string, e api.Errno) {
	if e != api.OK {
		w.failed = e
	}
	w.bytes = append(w.bytes, s...)
}

func (w *writer) num(n int) {
	w.put(code.Num("", n))
}

// id appends both numbers of an ID by themselves: a field that is empty, and the address of whoever is there, are no valid IDs.
func (w *writer) id(id api.ID) {
	w.num(id.Addr)
	w.num(id.Inc)
}

func (w *writer) ids(l []api.ID) {
	w.put(code.IDs("", l))
}

func (w *writer) view(v api.View) {
	w.num(len(v.Members))
	for _, m := range v.Members {
		w.id(m.ID)
		w.num(int(m.Status))
		w.num(m.No)
	}
	w.ids(v.Floors)
	w.num(len(v.Rows))
	for _, r := range v.Rows {
		w.id(r.Of)
		w.num(r.Version)
		w.ids(r.Not)
	}
	w.num(len(v.Clock))
	for _, t := range v.Clock {
		w.id(t.Of)
		w.num(t.N)
	}
	w.ids(v.Seen)
}
