package view_test

import (
	"cmp"
	"maps"
	"math"
	"slices"
	"testing"

	"covey/api"
	"covey/view"
)

// The chapter's terms in another way than the package has them: what is known of each ID is gathered in maps, entry by entry, and all limits and statuses stand here as numbers, so that no constant, and no other layer, is taken on trust.

func order(a, b api.ID) int {
	return cmp.Or(cmp.Compare(a.Addr, b.Addr), cmp.Compare(a.Inc, b.Inc))
}

func validID(x api.ID) bool {
	return x.Addr >= 1 && x.Addr <= 12 && x.Inc >= 1 && x.Inc <= 1048576
}

// setOf returns the IDs of some lists, each once, in increasing order.
func setOf(lists ...[]api.ID) []api.ID {
	in := map[api.ID]int{}
	for _, x := range slices.Concat(lists...) {
		in[x]++
	}
	return inOrder(in)
}

// inOrder returns the IDs of which a map has something, in increasing order.
func inOrder[T any](of map[api.ID]T) []api.ID {
	return slices.SortedFunc(maps.Keys(of), order)
}

// isSet reports whether a list increases, and contains valid IDs.
func isSet(l []api.ID) bool {
	return slices.Equal(l, setOf(l)) && !slices.ContainsFunc(l, func(x api.ID) bool { return !validID(x) })
}

// floorsOf returns the floors of all addresses, by addresses.
func floorsOf(f []api.ID) map[int]int {
	floors := map[int]int{}
	for _, x := range f {
		floors[x.Addr] = max(floors[x.Addr], x.Inc)
	}
	return floors
}

// above returns those IDs of a list that are not Removed.
func above(floors map[int]int, l []api.ID) []api.ID {
	var out []api.ID
	for _, x := range l {
		if x.Inc > floors[x.Addr] {
			out = append(out, x)
		}
	}
	return out
}

func mayMember(x api.Member) bool {
	switch x.Status {
	case 1, 2:
		return validID(x.ID) && x.No == 0
	case 3, 4:
		return validID(x.ID) && x.No >= 1 && x.No <= 1099511627776
	case 5, 6:
		return validID(x.ID) && x.No >= 0 && x.No <= 1099511627776
	}
	return false
}

// mayOf reports whether a view is valid.
func mayOf(v api.View) bool {
	floors, addrs := floorsOf(v.Floors), map[int]int{}
	of := map[string][]api.ID{}
	for _, x := range v.Members {
		addrs[x.ID.Addr]++
		if !mayMember(x) || addrs[x.ID.Addr] > 1 {
			return false
		}
		of["members"] = append(of["members"], x.ID)
	}
	for _, r := range v.Rows {
		if r.Version < 1 || r.Version > 1099511627776 || slices.Contains(r.Not, r.Of) || !isSet(r.Not) || len(above(floors, r.Not)) < len(r.Not) {
			return false
		}
		of["rows"] = append(of["rows"], r.Of)
	}
	for _, x := range v.Clock {
		if x.N < 1 || x.N > 1099511627776 {
			return false
		}
		of["clock"] = append(of["clock"], x.Of)
	}
	sets := isSet(of["members"]) && isSet(v.Floors) && isSet(of["rows"]) && isSet(of["clock"]) && isSet(v.Seen)
	removed := len(above(floors, of["members"])) < len(v.Members) || len(above(floors, of["rows"])) < len(v.Rows)
	return sets && !removed && len(floors) == len(v.Floors) && len(v.Rows) <= 64 && len(v.Clock) <= 64
}

// floorsOfAll returns the floors that valid views, and members with any status, prove together.
func floorsOfAll(all []api.View) map[int]int {
	floors, newest := map[int]int{}, map[int]int{}
	for _, v := range all {
		for _, x := range v.Members {
			newest[x.ID.Addr] = max(newest[x.ID.Addr], x.ID.Inc)
		}
	}
	for _, v := range all {
		for _, x := range v.Floors {
			floors[x.Addr] = max(floors[x.Addr], x.Inc)
		}
		for _, x := range v.Members {
			if x.Status == 7 || x.ID.Inc < newest[x.ID.Addr] {
				floors[x.ID.Addr] = max(floors[x.ID.Addr], x.ID.Inc)
			}
		}
	}
	return floors
}

// membersOfAll returns what valid views, and members with any number, say together of each one above its floor.
func membersOfAll(all []api.View, floors map[int]int) []api.Member {
	statuses, numbers := map[api.ID]uint8{}, map[api.ID][]int{}
	for _, v := range all {
		for _, x := range v.Members {
			statuses[x.ID] = max(statuses[x.ID], x.Status)
			if x.No > 0 {
				numbers[x.ID] = append(numbers[x.ID], x.No)
			}
		}
	}
	var out []api.Member
	for _, x := range above(floors, inOrder(statuses)) {
		y := api.Member{ID: x, Status: statuses[x]}
		if len(numbers[x]) > 0 {
			y.No = slices.Min(numbers[x])
		}
		out = append(out, y)
	}
	return out
}

// rowsOfAll returns what valid views say together of whom each one above its floor does not reach.
func rowsOfAll(all []api.View, floors map[int]int) []api.Row {
	versions, nots := map[api.ID]int{}, map[api.ID][]api.ID{}
	for _, v := range all {
		for _, r := range v.Rows {
			if r.Version > versions[r.Of] {
				versions[r.Of], nots[r.Of] = r.Version, nil
			}
			if r.Version == versions[r.Of] {
				nots[r.Of] = setOf(nots[r.Of], r.Not)
			}
		}
	}
	var out []api.Row
	for _, x := range above(floors, inOrder(versions)) {
		out = append(out, api.Row{Of: x, Version: versions[x], Not: above(floors, nots[x])})
	}
	return out
}

// clockOf returns what a valid clock says.
func clockOf(v api.View) map[api.ID]int {
	says := map[api.ID]int{}
	for _, x := range v.Clock {
		says[x.Of] = x.N
	}
	return says
}

// ticksOf returns the valid clock that says something.
func ticksOf(says map[api.ID]int) []api.Tick {
	var out []api.Tick
	for _, x := range inOrder(says) {
		out = append(out, api.Tick{Of: x, N: says[x]})
	}
	return out
}

// saysAll reports whether a valid clock says of each ID at least what another one says.
func saysAll(a, b map[api.ID]int) bool {
	for x, n := range b {
		if a[x] < n {
			return false
		}
	}
	return true
}

// joinOf returns valid views, joined, but for Seen, which it has of two alone.
func joinOf(all ...api.View) api.View {
	says := map[api.ID]int{}
	for _, v := range all {
		for x, n := range clockOf(v) {
			says[x] = max(says[x], n)
		}
	}
	floors := floorsOfAll(all)
	out := api.View{Members: membersOfAll(all, floors), Rows: rowsOfAll(all, floors), Clock: ticksOf(says)}
	for addr := 1; addr <= 12; addr++ {
		if floors[addr] > 0 {
			out.Floors = append(out.Floors, id(addr, floors[addr]))
		}
	}
	for _, v := range all {
		if len(all) == 2 && maps.Equal(clockOf(v), says) {
			out.Seen = setOf(out.Seen, v.Seen)
		}
	}
	return out
}

// changedOf returns the view of a node that changed a part: what was, and what would be if it made no difference to anybody.
func changedOf(v, changed api.View, me api.ID) (api.View, api.Errno) {
	changed.Clock, changed.Seen = v.Clock, v.Seen
	if equal(v, changed) {
		return v, api.OK
	}
	says := clockOf(v)
	if says[me] > 1099511627775 || says[me] == 0 && len(says) > 63 {
		return v, api.ErrTooLarge
	}
	says[me]++
	changed.Clock, changed.Seen = ticksOf(says), ids(me)
	return changed, api.OK
}

// putOf returns a valid view in which a node replaced a member.
func putOf(v api.View, me api.ID, m api.Member) (api.View, api.Errno) {
	if !validID(me) || !validID(m.ID) || m.Status < 1 || m.Status > 7 {
		return v, api.ErrForm
	}
	return changedOf(v, joinOf(v, api.View{Members: members(m)}), me)
}

// rowOf returns a valid view in which a node set whom it does not reach.
func rowOf(v api.View, me api.ID, not []api.ID) (api.View, api.Errno) {
	for _, x := range append(slices.Clone(not), me) {
		if !validID(x) {
			return v, api.ErrForm
		}
	}
	want := slices.DeleteFunc(setOf(not), func(x api.ID) bool { return x == me })
	old := api.Row{Of: me}
	if at := slices.IndexFunc(v.Rows, func(r api.Row) bool { return r.Of == me }); at >= 0 {
		old = v.Rows[at]
	}
	if slices.Equal(old.Not, want) {
		return v, api.OK
	}
	if old.Version > 1099511627775 {
		return v, api.ErrTooLarge
	}
	return changedOf(v, joinOf(v, api.View{Rows: []api.Row{{Of: me, Version: old.Version + 1, Not: want}}}), me)
}

// tellOf returns the valid view of a node that received another one.
func tellOf(v, told api.View, me api.ID) api.View {
	out := joinOf(v, told)
	out.Seen = setOf(out.Seen, ids(me))
	return out
}

// coversOf reports whether a valid view covers another one.
func coversOf(a, b api.View) bool {
	return equalCore(joinOf(a, b), a)
}

// equal reports whether views are the same to the letter.
func equal(a, b api.View) bool {
	return equalCore(a, b) && slices.Equal(a.Seen, b.Seen)
}

// equalCore reports whether views are the same to the letter, except for Seen.
func equalCore(a, b api.View) bool {
	return slices.Equal(a.Members, b.Members) && slices.Equal(a.Floors, b.Floors) && slices.Equal(a.Clock, b.Clock) &&
		slices.EqualFunc(a.Rows, b.Rows, func(x, y api.Row) bool {
			return x.Of == y.Of && x.Version == y.Version && slices.Equal(x.Not, y.Not)
		})
}

// checkOne holds all calls about one valid view against the model, for a node, a member, and some that are not reached.
func checkOne(t *testing.T, v api.View, me api.ID, m api.Member, not []api.ID) {
	t.Helper()
	if got := view.May(v); got != mayOf(v) {
		t.Fatalf("May(%v): %t", v, got)
	}
	if got := view.Copy(v); !equal(got, v) {
		t.Fatalf("Copy(%v): %v", v, got)
	}
	got, e := view.Put(v, me, m)
	if want, wantE := putOf(v, me, m); e != wantE || !equal(got, want) {
		t.Fatalf("Put(%v, %v, %v): %v, %v, not %v, %v", v, me, m, got, e, want, wantE)
	}
	got, e = view.Row(v, me, not)
	if want, wantE := rowOf(v, me, not); e != wantE || !equal(got, want) {
		t.Fatalf("Row(%v, %v, %v): %v, %v, not %v, %v", v, me, not, got, e, want, wantE)
	}
}

// checkTwo holds all calls about two valid views against the model, for a node.
func checkTwo(t *testing.T, a, b api.View, me api.ID) {
	t.Helper()
	if got, want := view.Join(a, b), joinOf(a, b); !equal(got, want) {
		t.Fatalf("Join(%v, %v): %v, not %v", a, b, got, want)
	}
	if got := view.Same(a, b); got != equal(a, b) {
		t.Fatalf("Same(%v, %v): %t", a, b, got)
	}
	if got := view.Core(a, b); got != equalCore(a, b) {
		t.Fatalf("Core(%v, %v): %t", a, b, got)
	}
	if got := view.Covers(a, b); got != coversOf(a, b) {
		t.Fatalf("Covers(%v, %v): %t", a, b, got)
	}
	if got, want := view.Tell(a, b, me), tellOf(a, b, me); !equal(got, want) {
		t.Fatalf("Tell(%v, %v, %v): %v, not %v", a, b, me, got, want)
	}
}

func id(addr, inc int) api.ID { return api.ID{Addr: addr, Inc: inc} }

func ids(l ...api.ID) []api.ID { return l }

func member(addr, inc int, status uint8, no int) api.Member {
	return api.Member{ID: id(addr, inc), Status: status, No: no}
}

func members(l ...api.Member) []api.Member { return l }

func row(of api.ID, version int, not ...api.ID) api.Row {
	return api.Row{Of: of, Version: version, Not: not}
}

func tick(addr, inc, n int) api.Tick { return api.Tick{Of: id(addr, inc), N: n} }

func ticks(l ...api.Tick) []api.Tick { return l }

// anyNumbers are the limits of addresses, incarnations and counts, what is beside them, and the ends of all numbers.
func anyNumbers() []int {
	return []int{math.MinInt, math.MinInt + 1, -1, 0, 1, 2, 12, 13, 1 << 20, 1<<20 + 1, 1<<40 - 1, 1 << 40, 1<<40 + 1, math.MaxInt - 1, math.MaxInt}
}

// anyIDs are IDs, most of them invalid, of all pairs of these numbers.
func anyIDs() []api.ID {
	var l []api.ID
	for _, addr := range anyNumbers() {
		for _, inc := range anyNumbers() {
			l = append(l, id(addr, inc))
		}
	}
	return l
}

// invalidIDs are IDs of which one number, or both, may not be.
func invalidIDs() []api.ID {
	return ids(api.ID{}, id(0, 1), id(-1, 1), id(13, 1), id(1, 0), id(1, -1), id(1, 1048577), id(13, 1048577), id(math.MinInt, 1), id(1, math.MaxInt))
}
