package edge_test

import (
	"slices"
	"testing"

	"covey/api"
	"covey/edge"
	"covey/view"
)

// What no list holds.
var (
	markID     = id(-7, -7)
	markMember = api.Member{ID: markID, Status: 77, No: -7}
	markRow    = row(markID, markID)
	markTick   = api.Tick{Of: markID, N: -7}
)

// roomy returns a list in new memory, with room for three more behind it, in which marks stand.
func roomy[T any](l []T, mark T) []T {
	return append(slices.Clone(l), mark, mark, mark)[:len(l)]
}

// spared returns a view in new memory, with spare room behind all its lists.
func spared(v api.View) api.View {
	out := api.View{Members: roomy(v.Members, markMember), Floors: roomy(v.Floors, markID), Rows: roomy(v.Rows, markRow), Clock: roomy(v.Clock, markTick), Seen: roomy(v.Seen, markID)}
	for i, r := range out.Rows {
		out.Rows[i].Not = roomy(r.Not, markID)
	}
	return out
}

// whole returns a list up to the end of the spare room behind it.
func whole[T any](l []T) []T { return l[:len(l)+3] }

// untouched reports whether a view with spare room is what it was, that room included.
func untouched(v, was api.View) bool {
	fresh := spared(was)
	for i, r := range v.Rows {
		if i >= len(fresh.Rows) || !slices.Equal(whole(r.Not), whole(fresh.Rows[i].Not)) {
			return false
		}
	}
	return text(v) == text(was) && slices.Equal(whole(v.Members), whole(fresh.Members)) && slices.Equal(whole(v.Floors), whole(fresh.Floors)) &&
		text(api.View{Rows: whole(v.Rows)}) == text(api.View{Rows: whole(fresh.Rows)}) &&
		slices.Equal(whole(v.Clock), whole(fresh.Clock)) && slices.Equal(whole(v.Seen), whole(fresh.Seen))
}

// overwrite overwrites a list, and the room behind it.
func overwrite[T any](l []T, mark T) {
	for i := range l[:cap(l)] {
		l[:cap(l)][i] = mark
	}
}

// overwriteAll overwrites all lists of a view.
func overwriteAll(v api.View) {
	for _, r := range v.Rows {
		overwrite(r.Not, markID)
	}
	overwrite(v.Members, markMember)
	overwrite(v.Floors, markID)
	overwrite(v.Rows, markRow)
	overwrite(v.Clock, markTick)
	overwrite(v.Seen, markID)
}

// anySteps are steps of views that need not be valid, by any IDs; every other one of the same views, and some with what results from one, so that all Kinds look at them.
func anySteps(seed draw, n int) []step {
	views := append(anyViews(seed, n), seed.valid(4), seed.valid(12))
	var all []step
	for range n {
		s := step{me: pick(&seed, anyIDs()), before: pick(&seed, views), after: pick(&seed, views)}
		if len(s.before.Members) > 0 && seed.below(2) == 0 {
			s.me = pick(&seed, s.before.Members).ID
		}
		told := pick(&seed, views)
		switch seed.below(8) {
		case 0:
			s.after = s.before
		case 1:
			s.after = view.Tell(s.before, told, s.me)
		case 2:
			s.after, _ = view.Row(s.before, s.me, picks(&seed, 2, anyIDs()))
		case 3:
			s.after, _ = view.Put(s.before, s.me, seed.anyMember(anyIDs()))
		case 4:
			s.after = s.before
			s.after.Members = slices.Clone(s.before.Members)
			for i, m := range s.before.Members {
				s.after.Members[i].Status = m.Status + uint8(seed.below(3))
			}
		}
		if seed.below(2) == 0 {
			s.told = &told
		}
		all = append(all, s)
	}
	return all
}

// Views, whichever they are, stay as they are, their spare room included; so do members that are handed in.
func TestArgumentsAreLeft(t *testing.T) {
	seed := draw(11)
	for _, was := range append(steps(12, 3000, 5), anySteps(13, 3000)...) {
		s := step{was.me, spared(was.before), spared(was.after), nil}
		told := spared(was.before)
		if was.told != nil {
			told = spared(*was.told)
			s.told = &told
		}
		edge.Turns(s.before, s.after)
		edge.Turns(s.after, s.before)
		s.kind()
		if !untouched(s.before, was.before) || !untouched(s.after, was.after) || was.told != nil && !untouched(told, *was.told) {
			t.Fatalf("Kind, or Turns: %v became %v: one of them was changed", was.before, was.after)
		}
		l := append(was.after.Members, seed.anyMember(anyIDs()))[:len(was.after.Members)+seed.below(2)]
		given := roomy(l, markMember)
		edge.Does(s.me, s.before, given)
		if !untouched(s.before, was.before) || !slices.Equal(whole(given), whole(roomy(l, markMember))) {
			t.Fatalf("Does of %v with %v changed one of them", was.before, l)
		}
	}
}

// What is answered shares no memory with what was handed in, nor with another answer.
func TestAnswersAreNew(t *testing.T) {
	done := 0
	for _, was := range append(steps(14, 2000, 5), anySteps(15, 2000)...) {
		for n, l := range [][]api.Member{nil, was.after.Members, append(slices.Clone(was.after.Members), api.Member{})} {
			before, given := spared(was.before), slices.Clone(l)
			want, e := edge.Does(was.me, was.before, l)
			wanted := text(want)
			first, _ := edge.Does(was.me, before, given)
			second, _ := edge.Does(was.me, before, given)
			overwriteAll(first)
			if !untouched(before, was.before) || !slices.Equal(given, l) || text(second) != wanted {
				t.Fatalf("%d: Does of %v with %v: its answer shares memory", n, was.before, l)
			}
			overwriteAll(before)
			overwrite(given, markMember)
			if text(second) != wanted {
				t.Fatalf("%d: Does of %v with %v: its answer changes later", n, was.before, l)
			}
			if e == api.OK && len(l) > 0 {
				done++
			}
		}
		before, after := spared(was.before), spared(was.after)
		turns := edge.Turns(before, after)
		again := slices.Clone(edge.Turns(before, after))
		overwrite(turns, edge.Turn{From: markMember, To: markMember})
		if !untouched(before, was.before) || !untouched(after, was.after) || !slices.Equal(edge.Turns(before, after), again) {
			t.Fatalf("Turns of %v and %v shares memory", was.before, was.after)
		}
		turns = edge.Turns(before, after)
		overwriteAll(before)
		overwriteAll(after)
		if !slices.Equal(turns, again) {
			t.Fatalf("Turns of %v and %v changes later", was.before, was.after)
		}
	}
	if done < 800 {
		t.Errorf("%d done alone", done)
	}
}

// No two lists of an answer share memory.
func TestListsOfAnAnswer(t *testing.T) {
	v := of(api.Up, api.Up, api.Joining)
	v = with(above(v, id(4, 9), id(5, 9)), row(a, b, c), row(b, c), row(c, b))
	for _, l := range [][]api.Member{nil, {up(c, 3)}, {member(b, api.Removed)}, {{}}} {
		got, _ := edge.Does(a, v, l)
		want := view.Copy(got)
		for i, r := range got.Rows {
			overwrite(r.Not, markID)
			got.Rows[i].Not, want.Rows[i].Not = nil, nil
			if text(got) != text(want) {
				t.Fatalf("Does: with a row %v became %v", want, got)
			}
		}
		overwrite(got.Seen, markID)
		if got.Seen, want.Seen = nil, nil; text(got) != text(want) {
			t.Fatalf("Does: with Seen %v became %v", want, got)
		}
		overwrite(got.Floors, markID)
		if got.Floors, want.Floors = nil, nil; text(got) != text(want) {
			t.Fatalf("Does: with floors %v became %v", want, got)
		}
	}
}

// The same is answered however often, and in whatever order, it is asked: nothing is kept.
func TestNothingIsKept(t *testing.T) {
	all := append(steps(16, 1500, 5), anySteps(17, 1500)...)
	kinds := make([]uint8, len(all))
	turns := make([][]edge.Turn, len(all))
	for i, s := range all {
		kinds[i], turns[i] = s.kind(), edge.Turns(s.before, s.after)
	}
	for i := len(all) - 1; i >= 0; i-- {
		s := all[i]
		if s.kind() != kinds[i] || !slices.Equal(edge.Turns(s.before, s.after), turns[i]) {
			t.Fatalf("%v: %v became %v: Kind %d, later %d", s.me, s.before, s.after, kinds[i], s.kind())
		}
	}
}

// Wrong inputs: whatever views, IDs and members are, all calls come back, without a panic; Turns increases, each ID once, and Does answers the view as it was beside an error.
func TestAnyInputs(t *testing.T) {
	seed := draw(18)
	errors := map[api.Errno]int{}
	for _, s := range anySteps(19, 30000) {
		if kind := s.kind(); kind > edge.Felled {
			t.Fatalf("Kind %d", kind)
		}
		turns := edge.Turns(s.before, s.after)
		for i := 1; i < len(turns); i++ {
			x, y := turns[i-1].To.ID, turns[i].To.ID
			if x.Addr > y.Addr || x.Addr == y.Addr && x.Inc >= y.Inc {
				t.Fatalf("Turns of %v and %v: %v", s.before, s.after, turns)
			}
		}
		l := s.after.Members
		if seed.below(2) == 0 {
			l = []api.Member{seed.anyMember(anyIDs()), seed.anyMember(anyIDs())}
		}
		got, e := edge.Does(s.me, s.before, l)
		if errors[e]++; e != api.OK && text(got) != text(s.before) {
			t.Fatalf("Does(%v, %v, %v): %v, %v", s.me, s.before, l, got, e)
		}
	}
	for _, e := range []api.Errno{api.OK, api.ErrForm, api.ErrTooLarge} {
		if errors[e] < 5 {
			t.Errorf("%v %d times alone", e, errors[e])
		}
	}
}

// Long lists, in no order, with entries many times, come back.
func TestLongLists(t *testing.T) {
	seed := draw(20)
	var before, after api.View
	for k := range 20000 {
		x := id(1+k%12, 1+k/12)
		before.Members = append(before.Members, up(x, 1+k), api.Member{ID: id(seed.below(14), seed.below(2000)), Status: uint8(seed.below(9))})
		after.Members = append(after.Members, api.Member{ID: x, Status: api.Down, No: 1 + k})
		before.Clock, after.Seen = append(before.Clock, api.Tick{Of: x, N: k}), append(after.Seen, x)
	}
	for k := range 200 {
		before.Rows = append(before.Rows, row(id(1+k%12, 1+k), after.Seen[:k]...))
		after.Rows = append(after.Rows, row(id(1+k%12, 1+k), after.Seen[k:]...))
		after.Floors = append(after.Floors, id(1+k%13, k))
	}
	slices.Reverse(after.Members)
	slices.Reverse(after.Seen)
	for _, s := range []step{{a, before, after, nil}, {a, after, before, &before}, {b, before, before, &after}, {a, api.View{}, after, &before}, {a, before, api.View{}, nil}} {
		s.kind()
		if turns := edge.Turns(s.before, s.after); len(turns) > 80000 {
			t.Errorf("%d turns", len(turns))
		}
	}
	edge.Does(a, before, after.Members[:100])
}
