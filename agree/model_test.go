package agree_test

import (
	"slices"
	"testing"

	"covey/agree"
	"covey/api"
)

// The chapter's terms in another way than the package has them: each ID is asked about by itself, entry by entry, and statuses and the order of IDs stand here as numbers, so that no constant, and no other layer, is taken on trust.

func id(addr, inc int) api.ID { return api.ID{Addr: addr, Inc: inc} }

func ids(l ...api.ID) []api.ID { return l }

func member(addr int, status uint8) api.Member {
	return api.Member{ID: id(addr, 1), Status: status, No: addr}
}

func row(of api.ID, not ...api.ID) api.Row { return api.Row{Of: of, Version: 1, Not: not} }

func before(a, b api.ID) bool {
	return a.Addr < b.Addr || a.Addr == b.Addr && a.Inc < b.Inc
}

func order(a, b api.ID) int {
	switch {
	case before(a, b):
		return -1
	case before(b, a):
		return 1
	}
	return 0
}

// isMember reports whether an ID is a member.
func isMember(v api.View, x api.ID) bool {
	for _, m := range v.Members {
		if m.ID == x {
			return true
		}
	}
	return false
}

// statusOf returns the status of a member.
func statusOf(v api.View, x api.ID) uint8 {
	for _, m := range v.Members {
		if m.ID == x {
			return m.Status
		}
	}
	panic("no member")
}

// missing reports whether an ID is a member that is not reached.
func missing(v api.View, x api.ID) bool {
	for _, r := range v.Rows {
		for _, y := range r.Not {
			if y == x && r.Of != x && isMember(v, x) && isMember(v, r.Of) && statusOf(v, r.Of) < 6 {
				return true
			}
		}
	}
	return false
}

func reachedOf(v api.View, x api.ID) bool {
	return isMember(v, x) && !missing(v, x)
}

func notReachedOf(v api.View) []api.ID {
	var out []api.ID
	for _, m := range v.Members {
		if missing(v, m.ID) && !slices.Contains(out, m.ID) {
			at := 0
			for at < len(out) && before(out[at], m.ID) {
				at++
			}
			out = slices.Insert(out, at, m.ID)
		}
	}
	return out
}

func allOf(v api.View) bool {
	voters := 0
	for _, m := range v.Members {
		status := statusOf(v, m.ID)
		if status == 3 || status == 4 {
			voters++
			if !slices.Contains(v.Seen, m.ID) {
				return false
			}
		}
		if missing(v, m.ID) && status != 5 && status != 6 {
			return false
		}
	}
	return voters > 0
}

func reachingOf(v api.View) bool {
	voters := 0
	for _, m := range v.Members {
		status := statusOf(v, m.ID)
		if (status == 3 || status == 4) && reachedOf(v, m.ID) {
			voters++
			if !slices.Contains(v.Seen, m.ID) {
				return false
			}
		}
	}
	return voters > 0
}

// rankOf returns the rank of a status: the lesser one leads; 0: it does not lead.
func rankOf(status uint8) int {
	switch status {
	case 3, 4:
		return 1
	case 2:
		return 2
	case 1:
		return 3
	}
	return 0
}

func leaderOf(v api.View) (api.ID, bool) {
	var best api.ID
	rank := 0
	for _, m := range v.Members {
		r := rankOf(statusOf(v, m.ID))
		if r == 0 || !reachedOf(v, m.ID) {
			continue
		}
		if rank == 0 || r < rank || r == rank && before(m.ID, best) {
			best, rank = m.ID, r
		}
	}
	return best, rank > 0
}

// answers are what all calls say of a view.
type answers struct {
	not           []api.ID
	reached       []bool
	all, reaching bool
	leader        api.ID
	led           bool
}

func equal(a, b answers) bool {
	return slices.Equal(a.not, b.not) && slices.Equal(a.reached, b.reached) &&
		a.all == b.all && a.reaching == b.reaching && a.leader == b.leader && a.led == b.led
}

// about returns all IDs that occur in a view, and some that need not.
func about(v api.View) []api.ID {
	out := ids(id(0, 0), id(1, 1), id(1, 2), id(12, 1048576), id(13, 1), id(-1, -1))
	for _, m := range v.Members {
		out = append(out, m.ID)
	}
	for _, r := range v.Rows {
		out = append(append(out, r.Of), r.Not...)
	}
	return append(append(out, v.Floors...), v.Seen...)
}

// got returns what the package says.
func got(v api.View) answers {
	a := answers{not: agree.NotReached(v), all: agree.All(v), reaching: agree.Reaching(v)}
	for _, x := range about(v) {
		a.reached = append(a.reached, agree.Reached(v, x))
	}
	a.leader, a.led = agree.Leader(v)
	return a
}

// want returns what the model says.
func want(v api.View) answers {
	a := answers{not: notReachedOf(v), all: allOf(v), reaching: reachingOf(v)}
	for _, x := range about(v) {
		a.reached = append(a.reached, reachedOf(v, x))
	}
	a.leader, a.led = leaderOf(v)
	return a
}

// check holds all calls about a view against the model.
func check(t *testing.T, v api.View) {
	t.Helper()
	if g, w := got(v), want(v); !equal(g, w) {
		t.Fatalf("of %v: %v, not %v", v, g, w)
	}
}
