package stage_test

import (
	"slices"
	"strconv"
)

// The chapter's tables in another way than the package has them, and in numbers, so that no constant is taken on trust.

// statusNames are the names of the statuses, the first of which is 1.
var statusNames = []string{"joining", "weak", "up", "leaving", "exiting", "down", "removed"}

// rule is a line of the table of edges: from each status of first to last.
type rule struct{ first, last, to, by uint8 }

var rules = []rule{
	{0, 0, 1, 1},
	{0, 0, 3, 4},
	{1, 1, 2, 2},
	{1, 2, 3, 2},
	{3, 3, 4, 4},
	{1, 2, 5, 4},
	{4, 4, 5, 2},
	{1, 5, 6, 8},
	{1, 4, 7, 1},
	{5, 6, 7, 3},
}

// edgeOf returns by whom an edge is followed.
func edgeOf(from, to uint8) uint8 {
	by := uint8(0)
	for _, r := range rules {
		if r.first <= from && from <= r.last && r.to == to {
			by |= r.by
		}
	}
	return by
}

// waysOf returns all paths: it makes those that have one edge, then those that have one more, and sorts them at the end.
func waysOf(from, to uint8) [][]uint8 {
	var found [][]uint8
	paths := [][]uint8{{}}
	for len(paths) > 0 {
		var longer [][]uint8
		for _, p := range paths {
			if last(from, p) == to {
				found = append(found, p)
			}
			for _, r := range rules {
				if r.first <= last(from, p) && last(from, p) <= r.last {
					longer = append(longer, slices.Concat(p, []uint8{r.to}))
				}
			}
		}
		paths = longer
	}
	slices.SortFunc(found, slices.Compare[[]uint8])
	return found
}

// last returns where a path ends.
func last(from uint8, path []uint8) uint8 {
	if len(path) == 0 {
		return from
	}
	return path[len(path)-1]
}

func samePaths(a, b [][]uint8) bool {
	return slices.EqualFunc(a, b, slices.Equal[[]uint8])
}

// everyNumber are none, all statuses, and all other numbers there are.
func everyNumber() []uint8 {
	var l []uint8
	for n := range 256 {
		l = append(l, uint8(n))
	}
	return l
}

// nearStatuses are none, all statuses, and some numbers that are no status.
var nearStatuses = []uint8{0, 1, 2, 3, 4, 5, 6, 7, 8, 9, 15, 16, 127, 128, 129, 135, 254, 255}

// text shows a number in messages.
func text(s uint8) string {
	if s >= 1 && int(s) <= len(statusNames) {
		return statusNames[s-1]
	}
	return strconv.Itoa(int(s))
}
