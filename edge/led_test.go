package edge_test

import (
	"strconv"
	"testing"

	"covey/api"
	"covey/edge"
	"covey/view"
)

// became returns a member that has another status, and its number.
func became(m api.Member, status uint8) api.Member {
	m.Status = status
	return m
}

// up returns a member that is Up, with a number.
func up(x api.ID, no int) api.Member {
	return api.Member{ID: x, Status: api.Up, No: no}
}

// P10.2, P10.4: Led: by the leader alone, where all agree, where only those that are reached do, and where neither does; with an edge to Weak, with several, and with others beside them.
func TestLed(t *testing.T) {
	e, f, g := id(5, 1), id(6, 1), id(7, 1)
	// a and b vote, c and d are Joining, e is Weak, f Leaving, g Exiting.
	all := of(api.Up, api.Up, api.Joining, api.Joining, api.Weak, api.Leaving, api.Exiting)
	weak := [][]api.Member{
		{member(c, api.Weak)},
		{member(d, api.Weak)},
		{member(c, api.Weak), member(d, api.Weak)},
	}
	others := [][]api.Member{
		{up(c, 8)},
		{up(e, 8)},
		{member(f, api.Exiting)},
		{member(g, api.Removed)},
		{member(c, api.Weak), up(e, 8)},
		{member(c, api.Weak), member(d, api.Weak), member(f, api.Exiting)},
		{member(c, api.Weak), member(g, api.Removed)},
		{up(c, 8), up(d, 9), up(e, 10), member(f, api.Exiting), member(g, api.Removed)},
	}
	for _, x := range []struct {
		name         string
		before       api.View
		leader       api.ID
		weak, others uint8
	}{
		{"all agree", seenBy(all, a, b, f), a, edge.Led, edge.Led},
		{"all agree, and one Exiting is not reached", with(seenBy(all, a, b, f), row(b, g)), a, edge.Led, edge.Led},
		{"one has not seen it", seenBy(all, a, b), a, 0, 0},
		{"only the leader has seen it", seenBy(all, a), a, 0, 0},
		{"the leader has not seen it", seenBy(all, b, f), a, 0, 0},
		{"nobody has seen it", seenBy(all), a, 0, 0},
		{"one Joining is not reached", with(seenBy(all, a, b, f), row(a, d)), a, edge.Led, 0},
		{"one Up is not reached", with(seenBy(all, a, f), row(f, b)), a, edge.Led, 0},
		{"one Up is not reached, and has seen it", with(seenBy(all, a, b, f), row(f, b)), a, edge.Led, 0},
		{"the least one is not reached", with(seenBy(all, b, f), row(b, a)), b, edge.Led, 0},
		{"only one Leaving is reached", with(seenBy(all, f), row(f, a, b)), f, edge.Led, 0},
		{"one is not reached, another one has not seen it", with(seenBy(all, a), row(a, b)), a, 0, 0},
		{"nobody who votes is reached", with(seenBy(all, a, b, f), row(c, a, b, f)), e, 0, 0},
	} {
		check := func(l []api.Member, want uint8) {
			t.Helper()
			for _, me := range ids(a, b, c, d, e, f, g, id(9, 1)) {
				s := step{me, x.before, put(t, x.before, me, l...), nil}
				if me == x.leader {
					checkKind(t, x.name, s, want)
				} else {
					checkKind(t, x.name+", not by the leader", s, 0)
				}
			}
		}
		for _, l := range weak {
			check(l, x.weak)
		}
		for _, l := range others {
			check(l, x.others)
		}
	}
}

// P10.2: where nobody votes, there is a leader, but nobody agrees.
func TestNobodyVotes(t *testing.T) {
	for _, before := range []api.View{of(api.Weak, api.Joining), of(api.Joining, api.Joining), of(api.Weak, api.Exiting), with(of(api.Weak, api.Joining), row(b, a))} {
		for _, x := range members(member(b, api.Weak), up(b, 2), up(a, 1), member(b, api.Removed)) {
			s := step{a, before, put(t, before, a, x), nil}
			if s.kind() != edge.Still {
				checkKind(t, "by nobody's leader", s, 0)
			}
		}
	}
}

// P10.2: of itself the leader does what others' leader does: it exits, and alone; it does not leave or rise by that.
func TestLeaderItself(t *testing.T) {
	for _, before := range []api.View{of(api.Leaving), of(api.Leaving, api.Joining, api.Down)} {
		checkKind(t, "exits", step{a, before, put(t, before, a, member(a, api.Exiting)), nil}, edge.Led)
		checkKind(t, "is Removed", step{a, before, put(t, before, a, member(a, api.Removed)), nil}, 0)
		checkKind(t, "is Down", step{a, before, put(t, before, a, member(a, api.Down)), nil}, edge.Felled)
	}
	before := of(api.Up, api.Down)
	checkKind(t, "leaves", step{a, before, put(t, before, a, member(a, api.Leaving)), nil}, edge.Left)
	checkKind(t, "leaves, and leads", step{a, before, put(t, before, a, member(a, api.Leaving), member(b, api.Removed)), nil}, 0)
	checkKind(t, "exits at once", step{a, before, put(t, before, a, member(a, api.Exiting)), nil}, 0)
}

// P10.2: whoever is newly Up has the next number, in the order of the IDs; in whatever order they were put.
func TestNumbers(t *testing.T) {
	before := of(api.Up, api.Joining, api.Weak, api.Joining)
	for _, x := range []struct {
		name string
		l    []api.Member
		kind uint8
	}{
		{"the next one", members(up(b, 2)), edge.Led},
		{"the next one, of one Weak", members(up(c, 2)), edge.Led},
		{"the next one, of the last one", members(up(d, 2)), edge.Led},
		{"one too many", members(up(b, 3)), 0},
		{"far too many", members(up(c, 1<<40)), 0},
		{"one that another one has", members(up(b, 1)), 0},
		{"two", members(up(b, 2), up(c, 3)), edge.Led},
		{"two, not side by side", members(up(b, 2), up(d, 3)), edge.Led},
		{"two, put in another order", members(up(d, 3), up(b, 2)), edge.Led},
		{"two, out of order", members(up(b, 3), up(c, 2)), 0},
		{"two, put out of order", members(up(d, 2), up(b, 3)), 0},
		{"two with the same", members(up(b, 2), up(c, 2)), 0},
		{"two, and one left out between them", members(up(b, 2), up(c, 4)), 0},
		{"two, from one too many on", members(up(b, 3), up(c, 4)), 0},
		{"three", members(up(b, 2), up(c, 3), up(d, 4)), edge.Led},
		{"three, of whom the last two are out of order", members(up(b, 2), up(c, 4), up(d, 3)), 0},
		{"two, and one Weak between them", members(member(b, api.Weak), up(c, 2), up(d, 3)), edge.Led},
		{"one Weak counted", members(member(b, api.Weak), up(c, 3)), 0},
	} {
		s := step{a, before, put(t, before, a, x.l...), nil}
		checkKind(t, x.name, s, x.kind)
		checkKind(t, x.name+", in the model", s, kindOf(s))
	}
}

// P10.2: the greatest number of all counts for the next one, whoever has it, also one that is Removed by the same change; up to MaxNumber.
func TestNextNumber(t *testing.T) {
	for _, status := range []uint8{api.Up, api.Leaving, api.Exiting, api.Down} {
		for _, greatest := range []int{2, 9, 1<<40 - 2, 1<<40 - 1, 1 << 40} {
			before := of(api.Up, api.Joining, status)
			before.Members[2].No = greatest
			next := min(greatest+1, 1<<40)
			for _, no := range []int{1, 2, greatest - 1, greatest, next} {
				want := uint8(0)
				if no == next {
					want = edge.Led
				}
				after := put(t, before, a, up(b, no))
				checkKind(t, "newly Up", step{a, before, after, nil}, want)
				if status > api.Leaving {
					after = put(t, before, a, up(b, no), member(c, api.Removed))
					checkKind(t, "newly Up, and one Removed", step{a, before, after, nil}, want)
				}
			}
		}
	}
}

// P10.2: all others have the number that they had.
func TestNumbersThatStay(t *testing.T) {
	before := of(api.Up, api.Up, api.Leaving, api.Joining)
	for _, x := range []struct {
		name string
		l    []api.Member
		kind uint8
	}{
		{"Exiting with its number", members(api.Member{ID: c, Status: api.Exiting, No: 3}), edge.Led},
		{"Exiting with a lesser number", members(api.Member{ID: c, Status: api.Exiting, No: 2}), 0},
		{"Exiting with a number that is not taken over", members(api.Member{ID: c, Status: api.Exiting}), edge.Led},
		{"Exiting with a greater number, not taken over", members(api.Member{ID: c, Status: api.Exiting, No: 9}), edge.Led},
		{"Exiting, newly Up and a lesser number", members(api.Member{ID: c, Status: api.Exiting, No: 2}, up(d, 4)), 0},
		{"Up with a lesser number", members(up(b, 1)), 0},
		{"newly Up, and Up with a lesser number", members(up(b, 1), up(d, 4)), 0},
		{"newly Up, and one Leaving", members(member(b, api.Leaving), up(d, 4)), 0},
		{"newly Up, and one Down", members(member(b, api.Down), up(d, 4)), 0},
		{"newly Up, and one let in", members(up(d, 4), member(id(5, 1), api.Joining)), 0},
		{"newly Up, and a floor", members(up(d, 4), member(id(5, 1), api.Removed)), 0},
		{"Weak, then Up", members(member(d, api.Weak), up(d, 4)), 0},
	} {
		s := step{a, before, put(t, before, a, x.l...), nil}
		checkKind(t, x.name, s, x.kind)
		checkKind(t, x.name+", in the model", s, kindOf(s))
	}
}

// oneOfEach are steps without a view that was received, one of each Kind that has none.
func oneOfEach(t *testing.T) map[uint8]step {
	t.Helper()
	v := of(api.Up, api.Up, api.Joining)
	return map[uint8]step{
		edge.Said:   {b, v, say(t, v, b, c), nil},
		edge.Let:    {b, v, put(t, v, b, member(d, api.Joining)), nil},
		edge.Began:  {b, api.View{}, put(t, api.View{}, b, up(b, 1)), nil},
		edge.Left:   {b, v, put(t, v, b, member(b, api.Leaving)), nil},
		edge.Led:    {a, v, put(t, v, a, up(c, 3)), nil},
		edge.Felled: {b, v, put(t, v, b, became(v.Members[2], api.Down)), nil},
	}
}

// P10.2: what fits more than one Kind is of the first one: where the view that results was received, or the part that changed, it is Heard; where another one was, it is not; where nothing changed, it is Still.
func TestFirstKind(t *testing.T) {
	for kind, s := range oneOfEach(t) {
		checkKind(t, "nothing received", s, kind)
		told := s.after
		s.told = &told
		checkKind(t, "what results received", s, edge.Heard)
		told = seenBy(s.after)
		checkKind(t, "what results received, seen by nobody", s, edge.Heard)
		told = s.before
		checkKind(t, "what was received", s, kind)
		told = api.View{}
		checkKind(t, "nothing known received", s, kind)
		told = put(t, s.after, s.me, member(id(9, 9), api.Joining))
		checkKind(t, "more received", s, kind)
		told = view.Copy(s.before)
		told.Clock = s.after.Clock
		if kind == edge.Said {
			told.Rows = s.after.Rows
		} else {
			told.Members = s.after.Members
		}
		told.Seen = ids(s.me)
		checkKind(t, "the part received", s, edge.Heard)
		s.after = s.before
		checkKind(t, "nothing changed", s, edge.Still)
	}
}

// P10.2: a change of each Kind, with one more thing that is not as the call would leave it, is of none.
func TestOneThingMore(t *testing.T) {
	spoils := map[string]func(v *api.View, me api.ID){
		"another one in Seen":    func(v *api.View, _ api.ID) { v.Seen = append(v.Seen, d) },
		"nobody in Seen":         func(v *api.View, _ api.ID) { v.Seen = nil },
		"only others in Seen":    func(v *api.View, _ api.ID) { v.Seen = ids(d) },
		"no clock":               func(v *api.View, _ api.ID) { v.Clock = nil },
		"a clock of another one": func(v *api.View, _ api.ID) { v.Clock = append(v.Clock, api.Tick{Of: id(9, 9), N: 1}) },
		"a floor":                func(v *api.View, _ api.ID) { v.Floors = append(v.Floors, id(9, 9)) },
		"a row":                  func(v *api.View, _ api.ID) { v.Rows = append(v.Rows, row(id(9, 9), a)) },
		"a member":               func(v *api.View, _ api.ID) { v.Members = append(v.Members, up(id(9, 9), 9)) },
		"no members":             func(v *api.View, _ api.ID) { v.Members = nil },
		"a clock that counts it twice": func(v *api.View, me api.ID) {
			for i, x := range v.Clock {
				if x.Of == me {
					v.Clock[i].N++
				}
			}
		},
		"a clock that does not count it": func(v *api.View, me api.ID) {
			for i, x := range v.Clock {
				if x.Of == me {
					v.Clock[i].N--
				}
			}
		},
		"a member that is absent": func(v *api.View, _ api.ID) { v.Members = v.Members[:len(v.Members)-1] },
		"another row":             func(v *api.View, me api.ID) { v.Rows = []api.Row{row(me, id(9, 9)), row(id(9, 9), me)} },
	}
	for name, spoil := range spoils {
		for kind, s := range oneOfEach(t) {
			s.after = view.Copy(s.after)
			spoil(&s.after, s.me)
			checkKind(t, name+" beside the Kind "+strconv.Itoa(int(kind)), s, 0)
		}
	}
}
