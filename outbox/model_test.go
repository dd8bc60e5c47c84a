package outbox_test

import (
	"reflect"
	"slices"
	"testing"

	"covey/api"
	"covey/outbox"
)

// A model of a box: it keeps all frames that were ever put, each with what became of it, and works out anew each time which ones wait.

// mostTime is the greatest number of frames that a box may have.
const mostTime = 4096

// The Kinds of which the tests speak, as the numbers that they are.
const (
	status = 3
	gossip = 4
	beat   = 5
	reply  = 6
)

func replaceable(kind uint8) bool { return kind == status || kind == gossip }

// What became of a frame that was put.
const (
	waits = iota
	wasLost
	wasTaken
	wasCleared
)

type entry struct {
	frame api.Frame
	fate  int
}

type model struct {
	max int
	all []entry
}

// waiting are the places of those that wait.
func (m *model) waiting() []int {
	var l []int
	for i, x := range m.all {
		if x.fate == waits {
			l = append(l, i)
		}
	}
	return l
}

func (m *model) frames() []api.Frame {
	var l []api.Frame
	for _, i := range m.waiting() {
		l = append(l, m.all[i].frame)
	}
	return l
}

// put puts a frame; if that is one too many, one of all is lost: the first replaceable one of those ahead of it, or that frame.
func (m *model) put(f api.Frame) (api.Frame, bool) {
	ahead := m.waiting()
	m.all = append(m.all, entry{frame: deep(f)})
	if len(ahead) < m.max {
		return api.Frame{}, false
	}
	out := len(m.all) - 1
	for _, i := range slices.Backward(ahead) {
		if replaceable(m.all[i].frame.Kind) {
			out = i
		}
	}
	m.all[out].fate = wasLost
	return m.all[out].frame, true
}

func (m *model) take() (api.Frame, bool) {
	l := m.waiting()
	if len(l) == 0 {
		return api.Frame{}, false
	}
	m.all[l[0]].fate = wasTaken
	return m.all[l[0]].frame, true
}

func (m *model) clear() {
	for _, i := range m.waiting() {
		m.all[i].fate = wasCleared
	}
}

// both are a box, and a model that is told the same.
type both struct {
	box   *outbox.Box
	model *model
}

func fresh(t *testing.T, max int) *both {
	t.Helper()
	b, e := outbox.New(max)
	if b == nil || e != api.OK {
		t.Fatalf("New(%d): %v, error %d", max, b, int(e))
	}
	return &both{b, &model{max: max}}
}

// filled are both, with frames of these Kinds put; their numbers are 1, 2, and so on.
func filled(t *testing.T, max int, kinds ...uint8) *both {
	t.Helper()
	b := fresh(t, max)
	for i, kind := range kinds {
		b.put(t, light(kind, i+1))
	}
	return b
}

// apart is a copy of both.
func (b *both) apart() *both {
	return &both{b.box.Copy(), &model{b.model.max, slices.Clone(b.model.all)}}
}

func (b *both) put(t *testing.T, f api.Frame) (api.Frame, bool) {
	t.Helper()
	ahead := b.model.frames()
	want, wantLost := b.model.put(f)
	out, lost, e := b.box.Put(f)
	if !equal(out, want) || lost != wantLost || e != api.OK {
		t.Fatalf("Put(%v), of at most %d behind %v: %v, %t, error %d, not %v, %t", f, b.model.max, ahead, out, lost, int(e), want, wantLost)
	}
	return out, lost
}

func (b *both) take(t *testing.T) (api.Frame, bool) {
	t.Helper()
	ahead := b.model.frames()
	want, wantIs := b.model.take()
	f, is := b.box.Take()
	if !equal(f, want) || is != wantIs {
		t.Fatalf("Take of %v: %v, %t, not %v, %t", ahead, f, is, want, wantIs)
	}
	return f, is
}

func (b *both) clear() {
	b.box.Clear()
	b.model.clear()
}

// look holds all that the box tells against the model.
func (b *both) look(t *testing.T) {
	t.Helper()
	want := b.model.frames()
	if got := b.box.Len(); got != len(want) {
		t.Fatalf("Len: %d, not %d", got, len(want))
	}
	if got := b.box.All(); !slices.EqualFunc(got, want, equal) {
		t.Fatalf("All: %v, not %v", got, want)
	}
}

// wants looks, and holds the numbers of those that wait against these.
func (b *both) wants(t *testing.T, ns ...int) {
	t.Helper()
	b.look(t)
	if got := numbers(b.box.All()); !slices.Equal(got, ns) {
		t.Fatalf("All: %v, not %v", got, ns)
	}
}

// drain takes all frames, and looks each time.
func (b *both) drain(t *testing.T) {
	t.Helper()
	for is := true; is; {
		_, is = b.take(t)
		b.look(t)
	}
}

// numbers are the N of frames.
func numbers(l []api.Frame) []int {
	var ns []int
	for _, f := range l {
		ns = append(ns, f.N)
	}
	return ns
}

func id(addr, inc int) api.ID { return api.ID{Addr: addr, Inc: inc} }

// light is a frame of a Kind, with a number.
func light(kind uint8, n int) api.Frame {
	return api.Frame{Kind: kind, From: id(1, 1), To: id(2, 1), N: n}
}

// full is a frame with something in all fields, whatever its Kind is; another number gives another one in each of them.
func full(kind uint8, n int) api.Frame {
	x := func(i int) api.ID { return id((n+i)%12+1, n+i+1) }
	return api.Frame{
		Kind: kind, From: x(0), To: x(1), N: n, Token: n + 7, About: x(2),
		View: api.View{
			Members: []api.Member{{ID: x(3), Status: api.Up, No: n + 1}, {ID: x(4), Status: uint8(n)}},
			Floors:  []api.ID{x(5), x(6)},
			Rows:    []api.Row{{Of: x(3), Version: n + 1, Not: []api.ID{x(4), x(7)}}, {Of: x(4), Version: n + 2, Not: []api.ID{x(3)}}, {Of: x(7), Version: n + 3}},
			Clock:   []api.Tick{{Of: x(3), N: n + 1}, {Of: x(8), N: n + 5}},
			Seen:    []api.ID{x(3), x(8), x(9)},
		},
	}
}

// frames are one of each form: with all fields, with none, with lists that are empty, or nil, each by itself.
func frames(kind uint8, n int) []api.Frame {
	l := []api.Frame{full(kind, n), light(kind, n), {}, {Kind: kind}}
	for _, drop := range []func(v *api.View){
		func(v *api.View) { v.Members = nil },
		func(v *api.View) { v.Members = v.Members[:0] },
		func(v *api.View) { v.Floors = nil },
		func(v *api.View) { v.Floors = v.Floors[:0] },
		func(v *api.View) { v.Rows = nil },
		func(v *api.View) { v.Rows = v.Rows[:0] },
		func(v *api.View) { v.Rows[0].Not = nil },
		func(v *api.View) { v.Rows[1].Not = v.Rows[1].Not[:0] },
		func(v *api.View) { v.Clock = nil },
		func(v *api.View) { v.Clock = v.Clock[:0] },
		func(v *api.View) { v.Seen = nil },
		func(v *api.View) { v.Seen = v.Seen[:0] },
	} {
		f := full(kind, n)
		drop(&f.View)
		l = append(l, f)
	}
	return l
}

// equal reports whether frames are the same in all fields; a list that is absent and one of nothing differ, since a box only keeps what it was given.
func equal(f, g api.Frame) bool { return reflect.DeepEqual(f, g) }

// deep returns a frame in new memory.
func deep(f api.Frame) api.Frame {
	v := &f.View
	*v = api.View{Members: slices.Clone(v.Members), Floors: slices.Clone(v.Floors), Rows: slices.Clone(v.Rows), Clock: slices.Clone(v.Clock), Seen: slices.Clone(v.Seen)}
	for i, r := range v.Rows {
		v.Rows[i].Not = slices.Clone(r.Not)
	}
	return f
}

// draw draws numbers from a fixed sequence.
type draw uint64

func (d *draw) below(n int) int {
	*d = *d*6364136223846793005 + 1442695040888963407
	return int(uint64(*d)>>20) % n
}

// pick draws one thing of a list.
func pick[T any](d *draw, of ...T) T { return of[d.below(len(of))] }
