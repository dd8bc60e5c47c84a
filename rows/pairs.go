package rows

import (
	"iter"
	"slices"

	"covey/api"
	"covey/ident"
)

// pairs produces, by increasing IDs, the first rows that two lists have of an ID: nil for a list that has none.
func pairs(a, b []api.Row) iter.Seq2[*api.Row, *api.Row] {
	return func(yield func(x, y *api.Row) bool) {
		restA, restB := firsts(a), firsts(b)
		for _, id := range ident.Join(owners(restA), owners(restB)) {
			var x, y *api.Row
			x, restA = take(restA, id)
			y, restB = take(restB, id)
			if !yield(x, y) {
				return
			}
		}
	}
}

// joined returns, in new memory, what counts of two rows of one ID, of which one may be nil.
func joined(x, y *api.Row) api.Row {
	switch {
	case y == nil || x != nil && x.Version > y.Version:
		return copied(*x)
	case x == nil || x.Version < y.Version:
		return copied(*y)
	}
	return api.Row{Of: x.Of, Version: x.Version, Not: ident.Join(x.Not, y.Not)}
}

// firsts returns the first row of each ID, by increasing IDs. (The list is new, the rows' own lists are not.)
func firsts(l []api.Row) []api.Row {
	out := slices.Clone(l)
	// Stable: of several rows of an ID the one that came first stays ahead.
	slices.SortStableFunc(out, func(r, s api.Row) int { return ident.Compare(r.Of, s.Of) })
	return slices.CompactFunc(out, func(r, s api.Row) bool { return r.Of == s.Of })
}

// owners returns the IDs whose rows these are.
func owners(l []api.Row) []api.ID {
	out := make([]api.ID, len(l))
	for i, r := range l {
		out[i] = r.Of
	}
	return out
}

// take returns the row of an ID, if it is the first one of a list (nil, if it is not), and the rows after it.
func take(l []api.Row, id api.ID) (*api.Row, []api.Row) {
	if len(l) == 0 || l[0].Of != id {
		return nil, l
	}
	return &l[0], l[1:]
}
