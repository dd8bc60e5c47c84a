package edge_test

import (
	"slices"
	"testing"

	"covey/agree"
	"covey/api"
	"covey/edge"
	"covey/view"
)

// The chapter's table in another way than the package has it: not what a change must be like to be of a Kind, but all views that a node may make of one; whatever is not among them is of no Kind. Statuses, Kinds and who may do what stand here as numbers and letters.

// who tells by whom an edge of chapter 4 is followed: by one who was asked (a), the leader (l), the member itself (s), anybody (y).
func who(from, to uint8) string {
	switch [2]uint8{from, to} {
	case [2]uint8{0, 1}, [2]uint8{1, 7}, [2]uint8{2, 7}, [2]uint8{3, 7}, [2]uint8{4, 7}:
		return "a"
	case [2]uint8{0, 3}, [2]uint8{3, 4}, [2]uint8{1, 5}, [2]uint8{2, 5}:
		return "s"
	case [2]uint8{1, 2}, [2]uint8{1, 3}, [2]uint8{2, 3}, [2]uint8{4, 5}:
		return "l"
	case [2]uint8{1, 6}, [2]uint8{2, 6}, [2]uint8{3, 6}, [2]uint8{4, 6}, [2]uint8{5, 6}:
		return "y"
	case [2]uint8{5, 7}, [2]uint8{6, 7}:
		return "al"
	}
	return ""
}

// find returns the member of an ID: its status is 0, if there is none.
func find(v api.View, x api.ID) api.Member {
	for _, m := range v.Members {
		if m.ID == x {
			return m
		}
	}
	return api.Member{}
}

// floorOf returns the floor of an address.
func floorOf(v api.View, addr int) int {
	floor := 0
	for _, f := range v.Floors {
		if f.Addr == addr {
			floor = max(floor, f.Inc)
		}
	}
	return floor
}

// turnsOf returns what changed between valid views whose incarnations are below 10: each ID is asked about by itself.
func turnsOf(before, after api.View) []edge.Turn {
	var out []edge.Turn
	for addr := 1; addr <= 12; addr++ {
		for inc := 1; inc < 10; inc++ {
			x := id(addr, inc)
			from, to := find(before, x), find(after, x)
			if from.Status > 0 && to.Status == 0 && inc <= floorOf(after, addr) {
				to = from
				to.Status = 7
			}
			if to.Status > 0 && to != from {
				out = append(out, edge.Turn{From: from, To: to})
			}
		}
	}
	return out
}

// act is what a node may do: some members that it replaces, one after another, and the Kind of that.
type act struct {
	kind uint8
	l    []api.Member
}

// lets are those that a node may let in.
func lets(me api.ID, v api.View) []act {
	var out []act
	if own := find(v, me).Status; own != 2 && own != 3 {
		return nil
	}
	for addr := 1; addr <= 5; addr++ {
		newest := floorOf(v, addr)
		for _, m := range v.Members {
			if m.ID.Addr == addr {
				newest = max(newest, m.ID.Inc)
			}
		}
		for inc := newest + 1; inc < 5; inc++ {
			out = append(out, act{4, members(api.Member{ID: id(addr, inc), Status: 1})})
		}
	}
	return out
}

// begins is what a node does that is the first one.
func begins(me api.ID, v api.View) []act {
	if len(v.Members)+len(v.Floors) > 0 {
		return nil
	}
	return []act{{5, members(api.Member{ID: me, Status: 3, No: 1})}}
}

// leaves are the ways in which a node may leave: with its number, or one that would become it.
func leaves(me api.ID, v api.View) []act {
	var out []act
	own := find(v, me)
	for to := uint8(1); to < 7 && own.Status > 0; to++ {
		if who(own.Status, to) != "s" {
			continue
		}
		for no := range 6 {
			out = append(out, act{6, members(api.Member{ID: me, Status: to, No: no})})
		}
	}
	return out
}

// leads are all that a node may do that leads.
func leads(me api.ID, v api.View) []act {
	if leader, is := agree.Leader(v); !is || leader != me {
		return nil
	}
	all := subsets(v.Members, func(m api.Member) []uint8 {
		switch {
		case agree.All(v):
			return [][]uint8{1: {2, 3}, 2: {3}, 3: nil, 4: {5}, 5: {7}, 6: {7}}[m.Status]
		case agree.Reaching(v) && m.Status == 1:
			return []uint8{2}
		}
		return nil
	})
	next := 1
	for _, m := range v.Members {
		next = max(next, m.No+1)
	}
	var out []act
	for _, l := range all {
		no := next
		for i := range l {
			if l[i].Status == 3 {
				l[i].No = no
				no++
			}
		}
		out = append(out, act{7, l})
	}
	return out
}

// fells are all whom a node may declare Down.
func fells(v api.View) []act {
	var out []act
	for _, l := range subsets(v.Members, func(m api.Member) []uint8 {
		if m.Status < 6 {
			return []uint8{6}
		}
		return nil
	}) {
		out = append(out, act{8, l})
	}
	return out
}

// outcome is a view that a node may make of another one, and the Kind of that.
type outcome struct {
	v    api.View
	kind uint8
}

// outcomes are all views that a node may make of a valid one by replacing members.
func outcomes(me api.ID, v api.View) []outcome {
	var out []outcome
	for _, x := range slices.Concat(lets(me, v), begins(me, v), leaves(me, v), leads(me, v), fells(v)) {
		w, e := v, api.OK
		for _, m := range x.l {
			if w, e = view.Put(w, me, m); e != api.OK {
				break
			}
		}
		if e == api.OK && text(w) != text(v) {
			out = append(out, outcome{w, x.kind})
		}
	}
	return out
}

// subsets are all ways in which some members, or none, become what they may.
func subsets(l []api.Member, may func(m api.Member) []uint8) [][]api.Member {
	all := [][]api.Member{nil}
	for _, m := range l {
		for _, was := range all[:len(all):len(all)] {
			for _, to := range may(m) {
				x := api.Member{ID: m.ID, Status: to, No: m.No}
				all = append(all, append(slices.Clone(was), x))
			}
		}
	}
	return all
}

// kindOf returns the Kind of a step between valid views.
func kindOf(s step) uint8 {
	after := text(s.after)
	if text(s.before) == after {
		return 1
	}
	if s.told != nil && text(view.Tell(s.before, *s.told, s.me)) == after {
		return 2
	}
	for _, r := range s.after.Rows {
		if said, _ := view.Row(s.before, s.me, r.Not); r.Of == s.me && text(said) == after {
			return 3
		}
	}
	for _, o := range outcomes(s.me, s.before) {
		if text(o.v) == after {
			return o.kind
		}
	}
	return 0
}

// kind returns the Kind that the package says.
func (s step) kind() uint8 { return edge.Kind(s.me, s.before, s.after, s.told) }

// checkKind holds the Kind of a step against what a test expects.
func checkKind(t *testing.T, name string, s step, want uint8) {
	t.Helper()
	if got := s.kind(); got != want {
		t.Errorf("%s: Kind %d, not %d: %v: %v became %v (told: %v)", name, got, want, s.me, s.before, s.after, s.told)
	}
}
