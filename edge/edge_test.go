package edge_test

import (
	"testing"

	"covey/api"
	"covey/edge"
	"covey/stage"
	"covey/view"
)

// The Kinds are numbered in the order of the chapter's table.
func TestKinds(t *testing.T) {
	for i, kind := range []uint8{edge.Still, edge.Heard, edge.Said, edge.Let, edge.Began, edge.Left, edge.Led, edge.Felled} {
		if int(kind) != i+1 {
			t.Errorf("the Kind %d has the number %d", i+1, kind)
		}
	}
}

// The chapter's examples.
func TestExamples(t *testing.T) {
	alone := of(api.Up)
	admitted := put(t, alone, a, member(b, api.Joining))
	checkKind(t, "another one admitted", step{a, alone, admitted, nil}, edge.Let)

	told := view.Tell(api.View{}, admitted, b)
	seen := view.Tell(admitted, told, a)
	checkKind(t, "with it in Seen, received", step{a, admitted, seen, &told}, edge.Heard)
	checkKind(t, "with it in Seen, not received", step{a, admitted, seen, nil}, 0)

	checkKind(t, "with the next number", step{a, seen, put(t, seen, a, member(b, api.Up)), nil}, edge.Led)
	checkKind(t, "with another number", step{a, seen, put(t, seen, a, api.Member{ID: b, Status: api.Up, No: 3}), nil}, 0)
}

// P10.2, P10.4, P10.6: each two statuses, and the change of one member from the first to the second: by the leader, by another one that is Up, by that member, and by somebody who is none. All agree.
func TestEachEdge(t *testing.T) {
	kinds := map[[2]uint8][4]uint8{
		{0, api.Joining}:           {edge.Let, edge.Let, 0, 0},
		{api.Joining, api.Weak}:    {edge.Led, 0, 0, 0},
		{api.Joining, api.Up}:      {edge.Led, 0, 0, 0},
		{api.Joining, api.Exiting}: {0, 0, edge.Left, 0},
		{api.Joining, api.Down}:    {edge.Felled, edge.Felled, edge.Felled, edge.Felled},
		{api.Weak, api.Up}:         {edge.Led, 0, 0, 0},
		{api.Weak, api.Exiting}:    {0, 0, edge.Left, 0},
		{api.Weak, api.Down}:       {edge.Felled, edge.Felled, edge.Felled, edge.Felled},
		{api.Up, api.Leaving}:      {0, 0, edge.Left, 0},
		{api.Up, api.Down}:         {edge.Felled, edge.Felled, edge.Felled, edge.Felled},
		{api.Leaving, api.Exiting}: {edge.Led, 0, 0, 0},
		{api.Leaving, api.Down}:    {edge.Felled, edge.Felled, edge.Felled, edge.Felled},
		{api.Exiting, api.Down}:    {edge.Felled, edge.Felled, edge.Felled, edge.Felled},
		{api.Exiting, api.Removed}: {edge.Led, 0, 0, 0},
		{api.Down, api.Removed}:    {edge.Led, 0, 0, 0},
	}
	for from := range api.Removed {
		before := seenBy(of(api.Up, api.Up, from), a, b, c)
		for to := api.Joining; to <= api.Removed; to++ {
			x := api.Member{ID: c, Status: to, No: before.Members[len(before.Members)-1].No}
			if from == 0 || to == api.Up {
				x.No = member(c, to).No
			}
			want := kinds[[2]uint8{from, to}]
			if to <= from {
				want = [4]uint8{edge.Still, edge.Still, edge.Still, edge.Still}
			}
			for i, me := range ids(a, b, c, d) {
				name := stage.Name(from) + " to " + stage.Name(to) + " by " + []string{"the leader", "another one", "that one", "none"}[i]
				s := step{me, before, put(t, before, me, x), nil}
				checkKind(t, name, s, want[i])
				checkKind(t, name+", in the model", s, kindOf(s))
			}
		}
	}
}

// P10.2: Still: the same view, whatever was received, and whoever it is.
func TestStill(t *testing.T) {
	told := of(api.Down)
	for _, v := range []api.View{{}, of(api.Up), of(api.Up, api.Joining), with(of(api.Up, api.Up), row(a, b)), above(of(), a)} {
		for _, me := range ids(a, b, c, api.ID{}) {
			for _, told := range []*api.View{nil, &v, &told, {}} {
				checkKind(t, "the same", step{me, v, view.Copy(v), told}, edge.Still)
			}
		}
	}
	empty := api.View{Members: []api.Member{}, Floors: []api.ID{}, Rows: []api.Row{}, Clock: []api.Tick{}, Seen: []api.ID{}}
	checkKind(t, "lists of nothing, for none", step{a, api.View{}, empty, nil}, edge.Still)
}

// P10.2: Heard: with something new, with nothing new but in Seen, and with nothing; and the same views, not received, or received by another one.
func TestHeard(t *testing.T) {
	v := of(api.Up, api.Up)
	more := put(t, v, b, member(c, api.Joining))
	further := say(t, put(t, more, b, member(b, api.Leaving), member(c, api.Down)), b, a)
	apart := say(t, v, a, b)
	other := put(t, v, d, member(id(9, 1), api.Joining))
	for _, x := range []struct {
		name         string
		before, told api.View
		kind         uint8
	}{
		{"a member", v, more, edge.Heard},
		{"members and rows", v, further, edge.Heard},
		{"what is ahead, from what is behind", more, further, edge.Heard},
		{"what is behind", seenBy(more, a, b), v, edge.Still},
		{"what is apart", apart, further, edge.Heard},
		{"by one who knows nothing", api.View{}, more, edge.Heard},
		{"nothing, by one who has seen it", v, api.View{}, edge.Still},
		{"nothing, by one who has not seen it", seenBy(v, b), api.View{}, edge.Heard},
		{"the same, and more have seen it", seenBy(v, a), v, edge.Heard},
		{"the same, and less have seen it", v, seenBy(v, b), edge.Still},
		{"the same, by one who has not seen it", seenBy(v, b), seenBy(v, b), edge.Heard},
		{"removals", v, above(of(0, api.Up), a), edge.Heard},
		{"a newer life", v, of(api.Up, api.Up, api.Up), edge.Heard},
	} {
		after := view.Tell(x.before, x.told, a)
		checkKind(t, x.name, step{a, x.before, after, &x.told}, x.kind)
		if x.kind == edge.Still {
			continue
		}
		checkKind(t, x.name+", not received", step{a, x.before, after, nil}, 0)
		checkKind(t, x.name+", by another one", step{d, x.before, after, &x.told}, 0)
		checkKind(t, x.name+", where another view was received", step{a, x.before, after, &other}, 0)
		checkKind(t, x.name+", and another one in Seen", step{a, x.before, seenBy(after, append(after.Seen, d)...), &x.told}, 0)
		checkKind(t, x.name+", and nobody in Seen", step{a, x.before, seenBy(after), &x.told}, 0)
		checkKind(t, x.name+", and a floor", step{a, x.before, above(after, append(after.Floors, id(9, 9))...), &x.told}, 0)
	}
}

// P10.2: the same view with more in Seen, or less: received, and not.
func TestSeenAlone(t *testing.T) {
	v := seenBy(of(api.Up, api.Up, api.Up), a)
	for _, seen := range [][]api.ID{ids(a, b), ids(a, b, c), ids(a, d)} {
		more := seenBy(v, seen...)
		checkKind(t, "more in Seen, received", step{a, v, more, &more}, edge.Heard)
		told := seenBy(v, seen[1:]...)
		checkKind(t, "others in Seen, received", step{a, v, more, &told}, edge.Heard)
		checkKind(t, "more in Seen, not received", step{a, v, more, nil}, 0)
		checkKind(t, "less in Seen, received", step{a, more, v, &v}, 0)
		checkKind(t, "less in Seen, not received", step{a, more, v, nil}, 0)
	}
	checkKind(t, "nobody in Seen", step{a, v, seenBy(v), nil}, 0)
}

// P10.2: Said: a first row, further ones, of nobody, and of whoever says it; and what else changed beside it.
func TestSaid(t *testing.T) {
	v := of(api.Up, api.Up, api.Joining)
	one := say(t, v, a, b)
	for _, x := range []struct {
		name   string
		me     api.ID
		before api.View
		not    []api.ID
	}{
		{"a first row", a, v, ids(b)},
		{"a first row of two", a, v, ids(b, c)},
		{"another one", a, one, ids(c)},
		{"one more", a, one, ids(b, c)},
		{"nobody any more", a, one, nil},
		{"by another one", b, one, ids(a)},
		{"by one that is Joining", c, one, ids(a, b)},
		{"by somebody who is none", d, one, ids(a)},
		{"by one who knows nobody", a, api.View{}, ids(b)},
		{"of those who are none", b, v, ids(d, id(9, 9))},
	} {
		after := say(t, x.before, x.me, x.not...)
		checkKind(t, x.name, step{x.me, x.before, after, nil}, edge.Said)
		for _, me := range ids(a, b, c, d) {
			if me != x.me {
				checkKind(t, x.name+", as another one's", step{me, x.before, after, nil}, 0)
			}
		}
		checkKind(t, x.name+", back", step{x.me, after, x.before, nil}, 0)
		again := say(t, say(t, after, x.me, id(8, 8)), x.me, x.not...)
		checkKind(t, x.name+", two versions later", step{x.me, after, again, nil}, 0)
		checkKind(t, x.name+", and a member", step{x.me, x.before, put(t, after, x.me, member(id(7, 1), api.Joining)), nil}, 0)
		checkKind(t, x.name+", and one Down", step{x.me, x.before, put(t, after, x.me, api.Member{ID: c, Status: api.Down}), nil}, 0)
	}
	other := step{a, v, with(say(t, v, a, b), row(b, a)), nil}
	checkKind(t, "another one's row", other, 0)
	other.after.Rows = []api.Row{row(a, b), row(b, a)}
	checkKind(t, "another one's row beside it", other, 0)
	none := step{a, one, with(put(t, one, a, member(b, api.Down))), nil}
	none.after.Members = one.Members
	checkKind(t, "a row that is gone", none, 0)
}

// P10.2: Let: by each status, where nobody of that address was known, and where each older life was a member.
func TestLet(t *testing.T) {
	for host := range api.Removed {
		want := uint8(0)
		if host == api.Weak || host == api.Up {
			want = edge.Let
		}
		for older := range api.Removed {
			before := of(host, api.Up, older)
			guest := member(id(3, 2), api.Joining)
			after := put(t, before, a, guest)
			checkKind(t, "by "+stage.Name(host)+", after "+stage.Name(older), step{a, before, after, nil}, want)
			checkKind(t, "by another one", step{d, before, after, nil}, 0)
			floor := above(before, id(3, 1))
			if older == 0 {
				checkKind(t, "above a floor", step{a, floor, put(t, floor, a, guest), nil}, want)
				checkKind(t, "at a floor", step{a, floor, put(t, floor, a, member(c, api.Joining)), nil}, edge.Still)
				checkKind(t, "of a first life", step{a, before, put(t, before, a, member(c, api.Joining)), nil}, want)
			}
		}
	}
	alone := of(api.Up)
	checkKind(t, "its own next life", step{a, alone, put(t, alone, a, member(id(1, 7), api.Joining)), nil}, edge.Let)
	one := of(api.Up, api.Up, 0, api.Up)
	checkKind(t, "an older life of one beside it", step{a, one, put(t, one, a, member(id(3, 1), api.Joining)), nil}, edge.Let)
	checkKind(t, "ahead of the newer one", step{a, above(one, id(3, 4)), put(t, above(one, id(3, 4)), a, member(id(3, 5), api.Joining)), nil}, edge.Let)
}

// P10.2: what is none of Let: another status, a number, two at once, and what else changed beside it.
func TestNotLet(t *testing.T) {
	before := of(api.Up, api.Up, api.Down)
	guest := member(d, api.Joining)
	for _, x := range []struct {
		name string
		l    []api.Member
	}{
		{"two", members(guest, member(id(5, 1), api.Joining))},
		{"two that have older lives", members(member(id(2, 2), api.Joining), member(id(3, 2), api.Joining))},
		{"an older life of another one Removed", members(guest, member(c, api.Removed))},
		{"its older life Removed by itself", members(member(c, api.Removed), member(id(3, 2), api.Joining))},
		{"one Down", members(guest, member(b, api.Down))},
		{"one Leaving", members(guest, member(a, api.Leaving))},
		{"Joining, then Weak", members(guest, member(d, api.Weak))},
		{"Joining, then Down", members(guest, api.Member{ID: d, Status: api.Down})},
		{"an ID that another one replaces", members(guest, member(id(4, 2), api.Joining))},
		{"the floor of another one", members(guest, member(id(6, 1), api.Removed))},
	} {
		s := step{a, before, put(t, before, a, x.l...), nil}
		checkKind(t, x.name, s, 0)
		checkKind(t, x.name+", in the model", s, kindOf(s))
	}
	for status := api.Weak; status <= api.Removed; status++ {
		for _, x := range ids(d, id(3, 2)) {
			s := step{a, before, put(t, before, a, member(x, status)), nil}
			checkKind(t, "as "+stage.Name(status), s, 0)
		}
	}
	s := step{a, before, put(t, before, a, guest), nil}
	s.after.Members[3].No = 4
	checkKind(t, "with a number", s, 0)
}

// P10.2: Began: by anybody who knows neither a member nor a floor, whatever else is known; and what it is not.
func TestBegan(t *testing.T) {
	known := api.View{Rows: []api.Row{row(c, b)}, Clock: []api.Tick{{Of: a, N: 7}}, Seen: ids(b, c)}
	for _, me := range ids(a, d, id(12, 1048576)) {
		first := api.Member{ID: me, Status: api.Up, No: 1}
		for _, before := range []api.View{{}, known} {
			after := put(t, before, me, first)
			checkKind(t, "the first one", step{me, before, after, nil}, edge.Began)
			checkKind(t, "by another one", step{b, before, after, nil}, 0)
			checkKind(t, "made by another one", step{me, before, put(t, before, b, first), nil}, 0)
			checkKind(t, "two", step{me, before, put(t, after, me, member(b, api.Joining)), nil}, 0)
			checkKind(t, "another one", step{me, before, put(t, before, me, api.Member{ID: b, Status: api.Up, No: 1}), nil}, 0)
			for _, no := range []int{2, 3, 1 << 40} {
				checkKind(t, "with another number", step{me, before, put(t, before, me, api.Member{ID: me, Status: api.Up, No: no}), nil}, 0)
			}
			for status := api.Joining; status <= api.Removed; status++ {
				x := api.Member{ID: me, Status: status}
				if status == api.Up {
					continue
				}
				if status > api.Up {
					x.No = 1
				}
				checkKind(t, "as "+stage.Name(status), step{me, before, put(t, before, me, x), nil}, 0)
			}
		}
		for _, before := range []api.View{above(api.View{}, b), above(known, id(7, 1)), of(0, api.Up), of(0, 0, api.Joining), of(0, api.Down)} {
			checkKind(t, "where there is a floor, or a member", step{me, before, put(t, before, me, first), nil}, 0)
		}
	}
	again := above(api.View{}, id(1, 1))
	me := id(1, 2)
	checkKind(t, "anew", step{me, again, put(t, again, me, api.Member{ID: me, Status: api.Up, No: 1}), nil}, 0)
}

// P10.2: Left: by itself alone, whether it leads or not, whoever agrees; not by somebody who was none, nor with what else changed beside it.
func TestLeft(t *testing.T) {
	for _, x := range []struct {
		from, to uint8
	}{{api.Joining, api.Exiting}, {api.Weak, api.Exiting}, {api.Up, api.Leaving}} {
		for _, other := range []uint8{0, api.Joining, api.Weak, api.Up, api.Leaving, api.Exiting, api.Down} {
			for _, before := range []api.View{of(x.from, other), seenBy(of(x.from, other)), with(of(x.from, other), row(b, a))} {
				left := before.Members[0]
				left.Status = x.to
				after := put(t, before, a, left)
				checkKind(t, stage.Name(x.from)+" leaves", step{a, before, after, nil}, edge.Left)
				checkKind(t, "another one leaves", step{b, before, put(t, before, b, left), nil}, 0)
				checkKind(t, "another one's change", step{b, before, after, nil}, 0)
				checkKind(t, "and one is let in", step{a, before, put(t, after, a, member(d, api.Joining)), nil}, 0)
				checkKind(t, "and a row", step{a, before, say(t, after, a, d), nil}, 0)
				if other != 0 && other < api.Down {
					fell := before.Members[1]
					fell.Status = api.Down
					checkKind(t, "and another one falls", step{a, before, put(t, after, a, fell), nil}, 0)
				}
			}
		}
	}
	none := above(of(0, api.Up), id(3, 1))
	for status := api.Joining; status <= api.Exiting; status++ {
		checkKind(t, "by somebody who was none", step{a, none, put(t, none, a, member(a, status)), nil}, 0)
	}
	alone := above(api.View{}, b)
	checkKind(t, "by somebody who was none, alone", step{a, alone, put(t, alone, a, member(a, api.Up)), nil}, 0)
}

// P10.2: Felled: one, several, and all, by anybody; not with another number, nor with what else changed beside it.
func TestFelled(t *testing.T) {
	before := of(api.Up, api.Joining, api.Weak, api.Leaving, api.Exiting, api.Down)
	down := func(l ...int) []api.Member {
		var out []api.Member
		for _, addr := range l {
			m := before.Members[addr-1]
			m.Status = api.Down
			out = append(out, m)
		}
		return out
	}
	for _, me := range ids(a, b, c, d, id(5, 1), id(6, 1), id(9, 1)) {
		for _, l := range [][]int{{1}, {2}, {3}, {4}, {5}, {1, 2}, {4, 5}, {1, 3, 5}, {5, 3, 1}, {1, 2, 3, 4, 5}} {
			after := put(t, before, me, down(l...)...)
			checkKind(t, "some", step{me, before, after, nil}, edge.Felled)
			checkKind(t, "as another one's", step{id(10, 1), before, after, nil}, 0)
			checkKind(t, "and one Removed", step{me, before, put(t, after, me, member(id(6, 1), api.Removed)), nil}, 0)
			checkKind(t, "and one let in", step{me, before, put(t, after, me, member(id(7, 1), api.Joining)), nil}, 0)
			checkKind(t, "and a row", step{me, before, say(t, after, me, id(9, 9)), nil}, 0)
			removed := down(l[0])[0]
			removed.Status = api.Removed
			checkKind(t, "and then Removed", step{me, before, put(t, after, me, removed), nil}, 0)
			for _, addr := range l {
				x := down(addr)[0]
				for _, no := range []int{1, 2, 3, 4} {
					x.No = no
					want := edge.Felled
					if was := before.Members[addr-1].No; was == 0 || no < was {
						want = 0
					}
					checkKind(t, "with a number", step{me, before, put(t, before, me, append(down(l...), x)...), nil}, want)
				}
			}
		}
	}
	again := of(api.Down)
	checkKind(t, "Down again", step{a, again, put(t, again, a, again.Members...), nil}, edge.Still)
	checkKind(t, "Down with a lesser number", step{b, of(0, api.Down), put(t, of(0, api.Down), b, api.Member{ID: b, Status: api.Down, No: 1}), nil}, 0)
}
