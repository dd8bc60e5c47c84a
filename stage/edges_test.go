package stage_test

import (
	"slices"
	"testing"

	"covey/api"
	"covey/stage"
)

// Terms: the kinds of actors are one bit each.
func TestActors(t *testing.T) {
	for _, c := range []struct {
		name      string
		got, want uint8
	}{
		{"Asked", stage.Asked, 1},
		{"Leader", stage.Leader, 2},
		{"Self", stage.Self, 4},
		{"Any", stage.Any, 8},
	} {
		if c.got != c.want {
			t.Errorf("%s: %d, not %d", c.name, c.got, c.want)
		}
	}
}

func TestExamples(t *testing.T) {
	if got := stage.Edge(api.Up, api.Leaving); got != stage.Self {
		t.Errorf("Edge(Up, Leaving): %d", got)
	}
	if got := stage.Edge(api.Up, api.Weak); got != 0 {
		t.Errorf("Edge(Up, Weak): %d", got)
	}
	if got := stage.Next(api.Leaving); !slices.Equal(got, []uint8{api.Exiting, api.Down, api.Removed}) {
		t.Errorf("Next(Leaving): %v", got)
	}
	if got := stage.Ways(api.Down, api.Removed); !samePaths(got, [][]uint8{{api.Removed}}) {
		t.Errorf("Ways(Down, Removed): %v", got)
	}
	if got := stage.Ways(api.Exiting, api.Removed); !samePaths(got, [][]uint8{{api.Down, api.Removed}, {api.Removed}}) {
		t.Errorf("Ways(Exiting, Removed): %v", got)
	}
	if s, e := stage.Parse("down"); s != 6 || e != api.OK {
		t.Errorf("Parse of down: %d, %v", s, e)
	}
}

// P4.2: each edge of the chapter's table, with those by whom it is followed.
func TestEdge(t *testing.T) {
	for _, c := range []struct{ from, to, want uint8 }{
		{0, api.Joining, stage.Asked},
		{0, api.Up, stage.Self},
		{api.Joining, api.Weak, stage.Leader},
		{api.Joining, api.Up, stage.Leader},
		{api.Joining, api.Exiting, stage.Self},
		{api.Joining, api.Down, stage.Any},
		{api.Joining, api.Removed, stage.Asked},
		{api.Weak, api.Up, stage.Leader},
		{api.Weak, api.Exiting, stage.Self},
		{api.Weak, api.Down, stage.Any},
		{api.Weak, api.Removed, stage.Asked},
		{api.Up, api.Leaving, stage.Self},
		{api.Up, api.Down, stage.Any},
		{api.Up, api.Removed, stage.Asked},
		{api.Leaving, api.Exiting, stage.Leader},
		{api.Leaving, api.Down, stage.Any},
		{api.Leaving, api.Removed, stage.Asked},
		{api.Exiting, api.Down, stage.Any},
		{api.Exiting, api.Removed, stage.Asked | stage.Leader},
		{api.Down, api.Removed, stage.Asked | stage.Leader},
	} {
		if got := stage.Edge(c.from, c.to); got != c.want {
			t.Errorf("Edge(%s, %s): %d, not %d", text(c.from), text(c.to), got, c.want)
		}
	}
}

// P4.2: every pair of numbers: there are no other edges, none from a status to itself, and none of what is no status.
func TestEdgeOfEveryPair(t *testing.T) {
	found := 0
	for _, from := range everyNumber() {
		for _, to := range everyNumber() {
			got := stage.Edge(from, to)
			if got != edgeOf(from, to) {
				t.Errorf("Edge(%s, %s): %d, not %d", text(from), text(to), got, edgeOf(from, to))
			}
			if got != 0 {
				found++
			}
		}
	}
	if found != 20 {
		t.Errorf("%d edges", found)
	}
}

// P4.2: the statuses that follow each one, in increasing order.
func TestNext(t *testing.T) {
	want := [][]uint8{{1, 3}, {2, 3, 5, 6, 7}, {3, 5, 6, 7}, {4, 6, 7}, {5, 6, 7}, {6, 7}, {7}}
	for _, from := range everyNumber() {
		var follow []uint8
		if int(from) < len(want) {
			follow = want[from]
		}
		if got := stage.Next(from); !slices.Equal(got, follow) {
			t.Errorf("Next(%s): %v, not %v", text(from), got, follow)
		}
	}
}

// P4.2: Next names a status if there is an edge to it, and only then.
func TestNextAndEdge(t *testing.T) {
	for _, from := range everyNumber() {
		next := stage.Next(from)
		for _, to := range everyNumber() {
			if slices.Contains(next, to) != (stage.Edge(from, to) != 0) {
				t.Errorf("Next(%s): %v, but Edge to %s: %d", text(from), next, text(to), stage.Edge(from, to))
			}
		}
		if !slices.IsSorted(next) || len(slices.Compact(slices.Clone(next))) != len(next) {
			t.Errorf("Next(%s): %v does not increase", text(from), next)
		}
	}
}

// P4.3: each edge leads to a greater status.
func TestEdgesNeverGoBack(t *testing.T) {
	for _, from := range everyNumber() {
		for _, to := range everyNumber() {
			if stage.Edge(from, to) != 0 && (to <= from || !stage.May(to)) {
				t.Errorf("an edge leads from %s to %s", text(from), text(to))
			}
		}
	}
}
