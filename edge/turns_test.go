package edge_test

import (
	"slices"
	"testing"

	"covey/api"
	"covey/edge"
	"covey/view"
)

func turn(from, to api.Member) edge.Turn { return edge.Turn{From: from, To: to} }

// checkTurns holds what changed against what a test expects.
func checkTurns(t *testing.T, name string, before, after api.View, want ...edge.Turn) {
	t.Helper()
	if got := edge.Turns(before, after); !slices.Equal(got, want) {
		t.Errorf("%s: %v, not %v: %v became %v", name, got, want, before, after)
	}
}

// P10.1: Turns: who is new, has another status, or number, is Removed, or has a newer life; and who is not listed.
func TestTurns(t *testing.T) {
	v := of(api.Up, api.Leaving, api.Joining, 0, api.Down)
	none := api.Member{}
	e := id(5, 1)
	was := v.Members
	for _, x := range []struct {
		name  string
		after api.View
		want  []edge.Turn
	}{
		{"nothing", v, nil},
		{"a status", put(t, v, a, member(a, api.Leaving)), []edge.Turn{turn(was[0], member(a, api.Leaving))}},
		{"a number", put(t, v, a, api.Member{ID: b, Status: api.Leaving, No: 1}), []edge.Turn{turn(was[1], api.Member{ID: b, Status: api.Leaving, No: 1})}},
		{"both", put(t, v, a, up(c, 7)), []edge.Turn{turn(was[2], up(c, 7))}},
		{"a new one", put(t, v, a, member(d, api.Joining)), []edge.Turn{turn(none, member(d, api.Joining))}},
		{"a new one that is Up", put(t, v, a, up(d, 9)), []edge.Turn{turn(none, up(d, 9))}},
		{"one Removed", put(t, v, a, member(e, api.Removed)), []edge.Turn{turn(was[3], member(e, api.Removed))}},
		{"one Removed with another number", put(t, v, a, api.Member{ID: e, Status: api.Removed, No: 2}), []edge.Turn{turn(was[3], member(e, api.Removed))}},
		{"one Removed that had no number", put(t, v, a, member(c, api.Removed)), []edge.Turn{turn(was[2], api.Member{ID: c, Status: api.Removed})}},
		{"one Removed that was not Down", put(t, v, a, member(a, api.Removed)), []edge.Turn{turn(was[0], became(was[0], api.Removed))}},
		{"one Removed by a floor far above it", above(of(api.Up, api.Leaving, api.Joining), id(5, 77)), []edge.Turn{turn(was[3], member(e, api.Removed))}},
		{"a newer life", put(t, v, a, member(id(2, 5), api.Joining)), []edge.Turn{turn(was[1], became(was[1], api.Removed)), turn(none, member(id(2, 5), api.Joining))}},
		{"a newer life, both Removed", put(t, v, a, member(id(2, 5), api.Removed)), []edge.Turn{turn(was[1], became(was[1], api.Removed))}},
		{"a life that nobody knew, Removed", put(t, v, a, member(d, api.Removed)), nil},
		{"some, in the order of IDs", put(t, v, a, up(id(9, 1), 9), member(e, api.Removed), member(c, api.Weak), member(id(2, 2), api.Joining), member(a, api.Down)), []edge.Turn{
			turn(was[0], member(a, api.Down)), turn(was[1], became(was[1], api.Removed)), turn(none, member(id(2, 2), api.Joining)),
			turn(was[2], member(c, api.Weak)), turn(was[3], member(e, api.Removed)), turn(none, up(id(9, 1), 9)),
		}},
		{"rows alone", say(t, v, a, b), nil},
		{"Seen alone", seenBy(v, d), nil},
		{"a row, and one Down", put(t, say(t, v, a, b), a, member(b, api.Down)), []edge.Turn{turn(was[1], member(b, api.Down))}},
		{"one absent, and not Removed", of(api.Up, api.Leaving, api.Joining), nil},
		{"all absent", api.View{}, nil},
		{"one absent, and a floor of nobody", above(of(0, api.Leaving, api.Joining, 0, api.Down), id(4, 1)), nil},
		{"one absent, another one Removed", above(of(0, api.Leaving, api.Joining), e), []edge.Turn{turn(was[3], member(e, api.Removed))}},
		{"all Removed", above(api.View{}, a, b, c, d, e), []edge.Turn{
			turn(was[0], became(was[0], api.Removed)), turn(was[1], became(was[1], api.Removed)), turn(was[2], became(was[2], api.Removed)), turn(was[3], became(was[3], api.Removed)),
		}},
	} {
		checkTurns(t, x.name, v, x.after, x.want...)
	}
	checkTurns(t, "nothing known", api.View{}, api.View{})
	checkTurns(t, "all new", api.View{}, of(api.Up, api.Weak), turn(none, was[0]), turn(none, member(b, api.Weak)))
	checkTurns(t, "back to what it was", of(api.Down), of(api.Up), turn(member(a, api.Down), member(a, api.Up)))
	checkTurns(t, "a member that was Removed", above(api.View{}, a), of(api.Up), turn(none, was[0]))
	checkTurns(t, "a member that is Removed in both", above(of(0, api.Up), a), above(of(0, api.Up), a))
	second := api.View{Members: members(up(id(1, 2), 1))}
	checkTurns(t, "one absent above a floor", second, above(api.View{}, id(1, 1)))
	checkTurns(t, "one absent at a floor", second, above(api.View{}, id(1, 2)), turn(up(id(1, 2), 1), became(up(id(1, 2), 1), api.Removed)))
	checkTurns(t, "another life, without a floor", of(api.Up), second, turn(none, up(id(1, 2), 1)))
	checkTurns(t, "an older life, without a floor", second, of(api.Up), turn(none, was[0]))
}

// P10.1: lists that are in no order, and entries twice: the first one of an ID counts, and what changed is told in order, once.
func TestTurnsOfNoOrder(t *testing.T) {
	none := api.Member{}
	before := api.View{Members: members(member(c, api.Up), member(a, api.Up), member(c, api.Down), member(a, api.Up))}
	checkTurns(t, "the same in another order", before, of(api.Up, 0, api.Up))
	checkTurns(t, "from them", before, above(of(api.Leaving), c), turn(member(a, api.Up), member(a, api.Leaving)), turn(member(c, api.Up), member(c, api.Removed)))
	checkTurns(t, "to them", api.View{}, before, turn(none, member(a, api.Up)), turn(none, member(c, api.Up)))
	floors := ids(id(2, 3), id(3, 1), id(3, 9), id(3, 2), id(1, 1))
	after := api.View{Floors: floors}
	checkTurns(t, "by floors in no order", before, after, turn(member(a, api.Up), member(a, api.Removed)), turn(member(c, api.Up), member(c, api.Removed)))
	wrong := api.Member{ID: id(13, 0), Status: 9, No: -4}
	checkTurns(t, "what is none", api.View{}, api.View{Members: members(wrong)}, turn(none, wrong))
}

// P10.1: what changed between any two drawn views, whether or not one results from the other.
func TestTurnsDrawn(t *testing.T) {
	seed := draw(2)
	count := 0
	for range 4000 {
		before, after := seed.valid(1+seed.below(12)), seed.valid(1+seed.below(12))
		checkTurns(t, "drawn", before, after, turnsOf(before, after)...)
		joined := view.Join(before, after)
		want := turnsOf(before, joined)
		checkTurns(t, "joined", before, joined, want...)
		for _, x := range want {
			if x.To.Status == api.Removed {
				count++
			}
		}
	}
	if count < 1000 {
		t.Errorf("%d Removed alone", count)
	}
}

// checkDoes holds what a node does against what a test expects.
func checkDoes(t *testing.T, name string, me api.ID, before api.View, l []api.Member, want api.View, wantE api.Errno) {
	t.Helper()
	if got, e := edge.Does(me, before, l); e != wantE || text(got) != text(want) {
		t.Errorf("%s: Does(%v, %v, %v): %v, %v, not %v, %v", name, me, before, l, got, e, want, wantE)
	}
}

// P10.1: Does: nothing, one, and several, one after another; each change is counted.
func TestDoes(t *testing.T) {
	v := of(api.Up, api.Joining, api.Down)
	for _, before := range []api.View{{}, v, with(v, row(a, c)), above(v, d), seenBy(v, d)} {
		for _, l := range [][]api.Member{
			nil,
			{},
			{up(b, 2)},
			{up(a, 1)},
			{up(b, 2), member(c, api.Removed)},
			{member(c, api.Removed), up(b, 2)},
			{member(c, api.Removed), member(c, api.Down)},
			{member(b, api.Weak), up(b, 2), member(b, api.Leaving), member(b, api.Exiting), member(b, api.Down), member(b, api.Removed)},
			{up(b, 4), up(b, 3), up(b, 2)},
			{member(id(3, 2), api.Joining), member(id(3, 3), api.Joining)},
			{became(up(d, 5), api.Removed)},
		} {
			for _, me := range ids(a, b, d) {
				checkDoes(t, "some", me, before, l, put(t, before, me, l...), api.OK)
			}
		}
	}
	got, _ := edge.Does(a, v, members(up(b, 2), member(c, api.Removed)))
	want := above(of(api.Up, api.Up), c)
	want.Clock, want.Seen = []api.Tick{{Of: a, N: 12}, {Of: b, N: 11}, {Of: c, N: 12}}, ids(a)
	if text(got) != text(want) {
		t.Errorf("Does: %v, not %v", got, want)
	}
}

// P10.1: with a member that view.Put refuses, wherever it stands, the view is what it was; so it is where the node, or its clock, is refused.
func TestDoesRefused(t *testing.T) {
	v := with(of(api.Up, api.Joining, api.Down), row(a, c))
	good := members(up(b, 2), member(c, api.Removed), member(d, api.Joining))
	refused := members(api.Member{ID: b}, api.Member{ID: b, Status: 8, No: 1}, up(id(13, 1), 3), up(id(1, 0), 3), up(id(0, 1), 3), up(id(1, 1<<20+1), 3))
	for _, bad := range refused {
		for at := range len(good) + 1 {
			checkDoes(t, "refused", a, v, slices.Insert(slices.Clone(good), at, bad), v, api.ErrForm)
		}
		checkDoes(t, "refused alone", a, api.View{}, members(bad), api.View{}, api.ErrForm)
		checkDoes(t, "refused twice", a, v, members(bad, bad), v, api.ErrForm)
	}
	for _, me := range ids(api.ID{}, id(13, 1), id(1, 0), id(-1, 1), id(1, 1<<20+1)) {
		checkDoes(t, "by an invalid ID", me, v, good, v, api.ErrForm)
		checkDoes(t, "nothing, by an invalid ID", me, v, nil, v, api.OK)
	}
	full := view.Copy(v)
	full.Clock[0].N = 1<<40 - 2
	checkDoes(t, "with room for two changes", a, full, good[:2], put(t, full, a, good[:2]...), api.OK)
	checkDoes(t, "without room for a third change", a, full, good, full, api.ErrTooLarge)
	checkDoes(t, "refused ahead of that", a, full, append(good[:2:2], refused[0], good[2]), full, api.ErrForm)
	checkDoes(t, "with room for what changes nothing", a, full, append(good[:2:2], good[:2]...), put(t, full, a, good[:2]...), api.OK)
	many := api.View{Clock: make([]api.Tick, 64)}
	for i := range many.Clock {
		many.Clock[i] = api.Tick{Of: id(2, 1+i), N: 1}
	}
	checkDoes(t, "without room in the clock", a, many, good, many, api.ErrTooLarge)
}

// P10.2: a change that view.Put refuses is of no Kind.
func TestRefusedIsNone(t *testing.T) {
	v := of(api.Up, api.Joining)
	v.Clock[0].N = 1 << 40
	after := put(t, of(api.Up, api.Joining), a, up(b, 2))
	for _, n := range []int{1 << 40, 1<<40 + 1, 1, 12} {
		after.Clock[0].N = n
		checkKind(t, "beyond the clock", step{a, v, after, nil}, 0)
	}
	for _, me := range ids(api.ID{}, id(13, 1), id(1, 0)) {
		first := api.View{Members: members(up(me, 1)), Clock: []api.Tick{{Of: me, N: 1}}, Seen: ids(me)}
		checkKind(t, "an invalid ID", step{me, api.View{}, first, nil}, 0)
	}
}
