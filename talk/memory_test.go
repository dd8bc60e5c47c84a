package talk_test

import (
	"slices"
	"testing"

	"covey/api"
	"covey/talk"
	"covey/view"
)

// What no list holds.
var (
	markID     = id(-7, -7)
	markMember = member(markID, 77, -7)
	markRow    = row(markID, -7, markID)
	markTick   = tick(markID, -7)
)

// roomy is a list in new memory, with room for three more behind it, in which marks stand.
func roomy[T any](l []T, mark T) []T {
	return append(slices.Clone(l), mark, mark, mark)[:len(l)]
}

// whole is a list with the room behind it.
func whole[T any](l []T) []T { return l[:cap(l)] }

// spared is a view in new memory, with spare room behind all its lists.
func spared(v api.View) api.View {
	out := api.View{Members: roomy(v.Members, markMember), Floors: roomy(v.Floors, markID), Rows: roomy(v.Rows, markRow), Clock: roomy(v.Clock, markTick), Seen: roomy(v.Seen, markID)}
	for i, r := range v.Rows {
		out.Rows[i].Not = roomy(r.Not, markID)
	}
	return out
}

// wholeText tells a view to the letter, with the room behind its lists.
func wholeText(v api.View) string {
	out := api.View{Members: whole(v.Members), Floors: whole(v.Floors), Rows: slices.Clone(whole(v.Rows)), Clock: whole(v.Clock), Seen: whole(v.Seen)}
	for i, r := range v.Rows {
		out.Rows[i].Not = whole(r.Not)
	}
	return text(out)
}

// overwrite overwrites a list, and the room behind it.
func overwrite[T any](l []T, mark T) {
	for i := range whole(l) {
		whole(l)[i] = mark
	}
}

// overwriteAll overwrites all lists of a view, one by one, and holds that no other list of it changes with that.
func overwriteAll(t *testing.T, v api.View) {
	t.Helper()
	hold := func(rest api.View, list func()) {
		t.Helper()
		was := text(rest)
		list()
		if text(rest) != was {
			t.Fatalf("a list of %s is in another one of it: %v", was, rest)
		}
	}
	for i, r := range v.Rows {
		v.Rows[i].Not = nil
		hold(v, func() { overwrite(r.Not, markID) })
	}
	members, floors, clock, seen := v.Members, v.Floors, v.Clock, v.Seen
	v.Members = nil
	hold(v, func() { overwrite(members, markMember) })
	v.Floors = nil
	hold(v, func() { overwrite(floors, markID) })
	v.Clock = nil
	hold(v, func() { overwrite(clock, markTick) })
	v.Seen = nil
	hold(v, func() { overwrite(seen, markID) })
	overwrite(v.Rows, row(markID, -7))
}

// call is one that answers a view: of what is known, and of what is told.
type call func(v, told api.View) api.View

// calls are all calls, with each answer, and with each error.
func calls() []call {
	tells := func(kind uint8) call {
		return func(v, told api.View) api.View {
			out, _, _ := talk.Told(v, a, api.Frame{Kind: kind, From: b, To: a, View: told})
			return out
		}
	}
	answers := func(kind uint8) call {
		return func(v, _ api.View) api.View {
			f, _ := talk.Answer(v, a, b, kind)
			return f.View
		}
	}
	return []call{
		tells(api.Status), tells(api.Gossip), tells(api.Beat), tells(0),
		answers(api.Status), answers(api.Gossip), answers(api.Beat), answers(0),
		func(v, _ api.View) api.View { return talk.Part(v) },
	}
}

// pairs are what is known, and what is told: with clocks that are the same, behind, ahead and apart, with views that are the same, and invalid ones.
func pairs(t *testing.T) [][2]api.View {
	t.Helper()
	later := put(t, some(), d, member(d, api.Joining, 0))
	other := put(t, some(), c, member(id(5, 1), api.Joining, 0))
	all := [][2]api.View{
		{{}, {}}, {some(), {}}, {{}, some()}, {some(), some()}, {some(), seenBy(some(), a, b)}, {seenBy(some(), a), seenBy(some(), a)},
		{some(), later}, {later, some()}, {later, other}, {full(40), full(40)}, {some(), full(12)}, {full(64), full(65)}, {full(65), full(64)},
	}
	views := anyViews(7, 6)
	for i, v := range views {
		all = append(all, [2]api.View{v, views[(i+5)%len(views)]}, [2]api.View{some(), v}, [2]api.View{v, some()})
	}
	return all
}

// The view, and the lists, that are given stay as they are, the room behind them, too; also if both views are one.
func TestArgumentsAreLeft(t *testing.T) {
	for _, of := range calls() {
		for _, p := range pairs(t) {
			v, told := spared(p[0]), spared(p[1])
			was, toldWas := wholeText(v), wholeText(told)
			of(v, told)
			of(v, v)
			if wholeText(v) != was || wholeText(told) != toldWas {
				t.Fatalf("%v became %v, or %v became %v", p[0], v, p[1], told)
			}
		}
	}
}

// What is returned is in memory of its own: nothing that is given, no other result, and no other list of it changes with what is written over it; nor does it change with what is written over what was given.
func TestResultsAreNew(t *testing.T) {
	for _, of := range calls() {
		for _, p := range pairs(t) {
			v, told := spared(p[0]), spared(p[1])
			was, toldWas := wholeText(v), wholeText(told)
			got, again := of(v, told), of(v, told)
			want := text(again)
			overwriteAll(t, got)
			if wholeText(v) != was || wholeText(told) != toldWas || text(again) != want {
				t.Fatalf("of %v and %v: the result is in memory of something else", p[0], p[1])
			}
			one := of(v, v)
			oneWas := text(one)
			overwriteAll(t, v)
			overwriteAll(t, told)
			if text(again) != want || text(one) != oneWas {
				t.Fatalf("of %v and %v: what was given is kept", p[0], p[1])
			}
		}
	}
}

// Nothing is kept from call to call: the same is answered again, whatever is asked in between.
func TestNothingIsKept(t *testing.T) {
	for k, of := range calls() {
		for _, p := range pairs(t) {
			first := text(of(p[0], p[1]))
			of(p[1], p[0])
			of(full(30), some())
			if got := text(of(p[0], p[1])); got != first {
				t.Fatalf("call %d of %v and %v: %s, later %s", k, p[0], p[1], first, got)
			}
		}
	}
}

// A view stays what it is, when somebody with it is told something: that one may be told something else, from the same view on.
func TestToldTwice(t *testing.T) {
	v := seenBy(some(), a)
	later := put(t, v, b, member(d, api.Joining, 0))
	x, _ := checkTold(t, v, a, gossip(later))
	y, _ := checkTold(t, v, a, status(seenBy(v, b)))
	if !view.Same(x, seenBy(later, a, b)) || !view.Same(y, seenBy(v, a, b)) || !view.Same(v, seenBy(some(), a)) {
		t.Errorf("%v, told other things: %v, and %v", v, x, y)
	}
}
