package stage_test

import (
	"slices"
	"testing"

	"covey/api"
	"covey/stage"
)

// P4.2: paths in their order, by hand.
func TestWays(t *testing.T) {
	for _, c := range []struct {
		from, to uint8
		want     [][]uint8
	}{
		{0, api.Joining, [][]uint8{{1}}},
		{0, api.Weak, [][]uint8{{1, 2}}},
		{0, api.Up, [][]uint8{{1, 2, 3}, {1, 3}, {3}}},
		{0, api.Leaving, [][]uint8{{1, 2, 3, 4}, {1, 3, 4}, {3, 4}}},
		{api.Joining, api.Up, [][]uint8{{2, 3}, {3}}},
		{api.Joining, api.Exiting, [][]uint8{{2, 3, 4, 5}, {2, 5}, {3, 4, 5}, {5}}},
		{api.Weak, api.Exiting, [][]uint8{{3, 4, 5}, {5}}},
		{api.Weak, api.Down, [][]uint8{{3, 4, 5, 6}, {3, 4, 6}, {3, 6}, {5, 6}, {6}}},
		{api.Up, api.Exiting, [][]uint8{{4, 5}}},
		{api.Up, api.Removed, [][]uint8{{4, 5, 6, 7}, {4, 5, 7}, {4, 6, 7}, {4, 7}, {6, 7}, {7}}},
		{api.Leaving, api.Removed, [][]uint8{{5, 6, 7}, {5, 7}, {6, 7}, {7}}},
	} {
		if got := stage.Ways(c.from, c.to); !samePaths(got, c.want) {
			t.Errorf("Ways(%s, %s): %v, not %v", text(c.from), text(c.to), got, c.want)
		}
	}
}

// P4.2: all paths of every pair, in their order: of those without a path, of a number and itself, and of what is no status, too.
func TestWaysOfEveryPair(t *testing.T) {
	for _, from := range everyNumber() {
		for _, to := range everyNumber() {
			if got, want := stage.Ways(from, to), waysOf(from, to); !samePaths(got, want) {
				t.Fatalf("Ways(%s, %s): %v, not %v", text(from), text(to), got, want)
			}
		}
	}
}

// P4.2: from a number to itself leads one empty path, and no other one.
func TestWaysToItself(t *testing.T) {
	for _, s := range everyNumber() {
		if got := stage.Ways(s, s); len(got) != 1 || len(got[0]) != 0 {
			t.Errorf("Ways(%s, %s): %v", text(s), text(s), got)
		}
	}
}

// P4.2: no path leads back, to none, to Joining from where there is no way, or from or to what is no status.
func TestNoWays(t *testing.T) {
	for _, c := range [][2]uint8{{1, 0}, {7, 0}, {2, 1}, {3, 1}, {3, 2}, {7, 1}, {7, 6}, {6, 5}, {5, 4}, {0, 8}, {7, 8}, {8, 7}, {8, 1}, {8, 0}, {8, 9}, {1, 255}, {255, 1}, {255, 7}} {
		if got := stage.Ways(c[0], c[1]); len(got) != 0 {
			t.Errorf("Ways(%s, %s): %v", text(c[0]), text(c[1]), got)
		}
	}
}

// P4.2: paths follow edges from the one to the other, each once, each before the next one at the first index at which they differ.
func TestWaysAndEdges(t *testing.T) {
	for _, from := range nearStatuses {
		for _, to := range nearStatuses {
			ways := stage.Ways(from, to)
			for i, path := range ways {
				at := from
				for _, next := range path {
					if stage.Edge(at, next) == 0 {
						t.Errorf("Ways(%s, %s): no edge from %s to %s", text(from), text(to), text(at), text(next))
					}
					at = next
				}
				if at != to {
					t.Errorf("Ways(%s, %s): %v ends elsewhere", text(from), text(to), path)
				}
				if i > 0 && slices.Compare(ways[i-1], path) >= 0 {
					t.Errorf("Ways(%s, %s): %v is before %v", text(from), text(to), ways[i-1], path)
				}
			}
		}
	}
}

// P4.3: each path increases.
func TestWaysIncrease(t *testing.T) {
	for _, from := range nearStatuses {
		for _, to := range nearStatuses {
			for _, path := range stage.Ways(from, to) {
				at := from
				for _, next := range path {
					if next <= at {
						t.Errorf("Ways(%s, %s): %v goes back", text(from), text(to), path)
					}
					at = next
				}
			}
		}
	}
}

// P4.4: to Removed lead paths from each status, several except from Down, and none longer than there are statuses left; from Removed leads none.
func TestToTheEnd(t *testing.T) {
	for s := api.Joining; s < api.Removed; s++ {
		ways := stage.Ways(s, api.Removed)
		if len(ways) == 0 || s != api.Down && len(ways) < 2 {
			t.Errorf("Ways(%s, removed): %v", text(s), ways)
		}
		for _, path := range ways {
			if len(path) == 0 || len(path) > int(api.Removed-s) {
				t.Errorf("Ways(%s, removed): %v has %d edges", text(s), path, len(path))
			}
		}
	}
	if next := stage.Next(api.Removed); len(next) != 0 {
		t.Errorf("Next(removed): %v", next)
	}
	for _, to := range everyNumber() {
		if ways := stage.Ways(api.Removed, to); to != api.Removed && len(ways) != 0 {
			t.Errorf("Ways(removed, %s): %v", text(to), ways)
		}
	}
}

// P4.6: who is Leaving was Up.
func TestUpOnce(t *testing.T) {
	for _, from := range []uint8{0, api.Joining, api.Weak, api.Up} {
		ways := stage.Ways(from, api.Leaving)
		if len(ways) == 0 {
			t.Errorf("Ways(%s, leaving): none", text(from))
		}
		for _, path := range ways {
			if from != api.Up && !slices.Contains(path, api.Up) {
				t.Errorf("Ways(%s, leaving): %v", text(from), path)
			}
		}
	}
	for _, from := range everyNumber()[api.Leaving+1:] {
		if ways := stage.Ways(from, api.Leaving); len(ways) != 0 {
			t.Errorf("Ways(%s, leaving): %v", text(from), ways)
		}
	}
}

// Each list is in memory of its own: no other one of the same result, nor a later result, changes with it, or with the room behind it.
func TestResultsAreNew(t *testing.T) {
	for _, from := range nearStatuses {
		next := stage.Next(from)
		fill(next)
		if again := stage.Next(from); slices.Contains(again, 99) {
			t.Errorf("Next(%s) gives the same memory twice", text(from))
		}
		for _, to := range nearStatuses {
			want := waysOf(from, to)
			for i, path := range stage.Ways(from, to) {
				ways := stage.Ways(from, to)
				fill(ways[i])
				ways[i] = path
				if !samePaths(ways, want) || !samePaths(stage.Ways(from, to), want) {
					t.Errorf("Ways(%s, %s): path %d shares memory", text(from), text(to), i)
				}
			}
		}
	}
}

// fill overwrites a list, and the room behind it.
func fill(l []uint8) {
	for i := range l[:cap(l)] {
		l[:cap(l)][i] = 99
	}
}
