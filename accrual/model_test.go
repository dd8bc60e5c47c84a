package accrual_test

import (
	"math"
	"slices"
	"testing"

	"covey/accrual"
	"covey/api"
)

// The chapter's terms in another way than the package has them: a model keeps all that it was ever told, and works out anew each time what the last time and the gaps are; a mean is never divided.

const (
	mostTime   = 4096
	mostNumber = 1 << 40
)

type told struct {
	heard bool
	now   int
}

type model struct {
	min, max, window int
	all              []told
}

// number is the number as which a time counts, without regard to the last one.
func number(now int) int {
	switch {
	case now < 0:
		return 0
	case now > mostNumber:
		return mostNumber
	}
	return now
}

// last is the last time, and whether there is one, with all gaps that led to it.
func (m *model) last() (last int, is bool, gaps []int) {
	for _, x := range m.all {
		now := number(x.now)
		switch {
		case !is:
			last, is = now, true
		case x.heard && now > last:
			gaps = append(gaps, now-last)
			last = now
		case x.heard:
			gaps = append(gaps, 0)
		}
	}
	return last, is, gaps
}

// limit is the first number from the lower bound on that is not less than twice the mean, if the upper bound does not come ahead of it.
func (m *model) limit() int {
	_, _, gaps := m.last()
	if len(gaps) == 0 {
		return m.max
	}
	sum, n := 0, 0
	for _, gap := range slices.Backward(gaps) {
		if n < m.window {
			sum += gap
			n++
		}
	}
	limit := m.min
	for limit < m.max && limit*n < sum+sum {
		limit++
	}
	return limit
}

// both are a detector, and a model that is told the same.
type both struct {
	detector *accrual.Detector
	model    *model
}

func fresh(t *testing.T, min, max, window int) *both {
	t.Helper()
	d, e := accrual.New(min, max, window)
	if d == nil || e != api.OK {
		t.Fatalf("New(%d, %d, %d): %v, error %d", min, max, window, d, int(e))
	}
	return &both{d, &model{min: min, max: max, window: window}}
}

// apart is a copy of both.
func (b *both) apart() *both {
	m := *b.model
	m.all = slices.Clone(m.all)
	return &both{b.detector.Copy(), &m}
}

func (b *both) begin(now int) {
	b.detector.Begin(now)
	b.model.all = append(b.model.all, told{false, now})
}

func (b *both) heard(nows ...int) {
	for _, now := range nows {
		b.detector.Heard(now)
		b.model.all = append(b.model.all, told{true, now})
	}
}

// look holds all that the detector tells against the model: the limit, and whether it is late at any time near to where that changes, and far from it.
func (b *both) look(t *testing.T) {
	t.Helper()
	limit := b.model.limit()
	if got := b.detector.Limit(); got != limit {
		t.Fatalf("of %v Limit: %d, not %d", b.model, got, limit)
	}
	last, is, _ := b.model.last()
	for _, now := range append(ends(), last-1, last, last+1, last+limit-1, last+limit, last+limit+1, last+b.model.min, last+b.model.max+1) {
		want := is && number(now) > last+limit
		if got := b.detector.Late(now); got != want {
			t.Fatalf("of %v Late(%d): %t", b.model, now, got)
		}
	}
	if got := b.detector.Limit(); got != limit {
		t.Fatalf("of %v Limit, after Late: %d, not %d", b.model, got, limit)
	}
}

// wants looks, and holds the limit against this one.
func (b *both) wants(t *testing.T, limit int) {
	t.Helper()
	b.look(t)
	if got := b.detector.Limit(); got != limit {
		t.Fatalf("of %v Limit: %d, not %d", b.model, got, limit)
	}
}

// lateFrom holds the first time at which it is late against this one: at that it is, and at the one before it is not.
func (b *both) lateFrom(t *testing.T, now int) {
	t.Helper()
	b.look(t)
	if b.detector.Late(now-1) || !b.detector.Late(now) {
		t.Fatalf("of %v Late(%d): %t, Late(%d): %t", b.model, now-1, b.detector.Late(now-1), now, b.detector.Late(now))
	}
}

// ends are times at the ends of what counts, and beyond them.
func ends() []int {
	return []int{math.MinInt, math.MinInt + 1, -1 << 40, -1, 0, 1, mostNumber - 1, mostNumber, mostNumber + 1, math.MaxInt - 1, math.MaxInt}
}

// draw draws numbers from a fixed sequence.
type draw uint64

func (d *draw) below(n int) int {
	*d = *d*6364136223846793005 + 1442695040888963407
	return int(uint64(*d)>>20) % n
}

// pick draws one thing of a list.
func pick[T any](d *draw, of ...T) T { return of[d.below(len(of))] }

// detector draws bounds and a window, mostly small ones.
func (d *draw) detector(t *testing.T) *both {
	t.Helper()
	min := pick(d, 1, 1, 2, 3, 5, 20, mostTime)
	max := min
	for range d.below(4) {
		max = pick(d, max, max+1, 2*max, 7*max, mostTime)
	}
	if max > mostTime {
		max = mostTime
	}
	return fresh(t, min, max, pick(d, 1, 2, 3, 4, 5, 7, 16, mostTime))
}

// gap draws a gap, mostly a small one, now and then one that goes back.
func (d *draw) gap() int {
	return pick(d, 0, 1, 1, 2, 3, d.below(6), d.below(30), d.below(5000), -d.below(9))
}
