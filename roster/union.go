package roster

import (
	"slices"

	"covey/api"
	"covey/ident"
)

// lives holds, of each address at its place, an incarnation: its floor, or its newest one; 0, if it has none.
type lives [api.MaxAddr + 1]int

// raise makes the incarnation of an address at least that of an ID.
func (l *lives) raise(id api.ID) {
	l[id.Addr] = max(l[id.Addr], id.Inc)
}

// gone reports whether an ID is at most the incarnation of its address.
func (l *lives) gone(id api.ID) bool {
	return id.Inc <= l[id.Addr]
}

// list returns the incarnations above 0, by increasing addresses.
func (l *lives) list() []api.ID {
	out := make([]api.ID, 0, api.MaxAddr)
	for addr, inc := range l {
		if inc > 0 {
			out = append(out, api.ID{Addr: addr, Inc: inc})
		}
	}
	return out
}

// counts reports whether an entry of members counts in a union.
func counts(x api.Member) bool {
	return ident.May(x.ID) && api.Joining <= x.Status && x.Status <= api.Removed
}

// raised returns the floors that members, and given floors, prove. All of them count.
func raised(members []api.Member, given []api.ID) *lives {
	var newest, floors lives
	for _, id := range given {
		floors.raise(id)
	}
	for _, x := range members {
		newest.raise(x.ID)
	}
	for _, x := range members {
		// A newer life of an address proves that this one has ended.
		if x.Status == api.Removed || x.ID.Inc < newest[x.ID.Addr] {
			floors.raise(x.ID)
		}
	}
	return &floors
}

// united returns one member for each ID, by increasing IDs. All of them count, and those of one address have one ID.
func united(members []api.Member) []api.Member {
	var byAddr [api.MaxAddr + 1]api.Member
	for _, x := range members {
		was := byAddr[x.ID.Addr]
		byAddr[x.ID.Addr] = api.Member{ID: x.ID, Status: max(was.Status, x.Status), No: elder(was.No, x.No)}
	}
	return slices.DeleteFunc(byAddr[:], func(x api.Member) bool { return x.Status == 0 })
}

// elder returns the lesser one of two numbers of which only those above 0 count; 0, if none does.
func elder(a, b int) int {
	switch {
	case a <= 0:
		return max(b, 0)
	case b <= 0:
		return a
	}
	return min(a, b)
}
