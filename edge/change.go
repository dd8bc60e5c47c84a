package edge

import (
	"slices"

	"covey/agree"
	"covey/api"
	"covey/ident"
	"covey/roster"
	"covey/rows"
	"covey/stage"
	"covey/view"
)

// change is what a node (me) made of its view, where it may have received another one, and what changed by that.
type change struct {
	me            api.ID
	before, after api.View
	told          *api.View
	turns         []Turn
}

// still reports whether nothing changed.
func (c change) still() bool {
	return view.Same(c.before, c.after)
}

// heard reports whether the node received a view.
func (c change) heard() bool {
	return c.told != nil && view.Same(view.Tell(c.before, *c.told, c.me), c.after)
}

// said reports whether the node set whom it does not reach.
func (c change) said() bool {
	row, is := rows.Get(c.after.Rows, c.me)
	return is && c.makes(view.Row(c.before, c.me, row.Not))
}

// let reports whether the node, which is Weak or Up, let one in that was none.
func (c change) let() bool {
	host, _ := roster.Get(c.before.Members, c.me)
	if host.Status != api.Weak && host.Status != api.Up {
		return false
	}
	// An older life that a newer one of its address removes is not counted.
	counted := slices.DeleteFunc(slices.Clone(c.turns), func(t Turn) bool {
		newest, _ := roster.At(c.after.Members, t.To.ID.Addr)
		return t.To.Status == api.Removed && ident.Less(t.To.ID, newest.ID)
	})
	if len(counted) != 1 {
		return false
	}
	t := counted[0]
	return t == Turn{To: api.Member{ID: t.To.ID, Status: api.Joining}} && c.puts(t)
}

// began reports whether the node, where nobody is or was a member, made itself the first one.
func (c change) began() bool {
	first := Turn{To: api.Member{ID: c.me, Status: api.Up, No: 1}}
	return len(c.before.Members) == 0 && len(c.before.Floors) == 0 && c.puts(first)
}

// left reports whether the node, which was somebody, changed its own status, and nothing else.
func (c change) left() bool {
	if len(c.turns) != 1 {
		return false
	}
	t := c.turns[0]
	return t.To.ID == c.me && t.From.Status != 0 && by(stage.Self)(t) && c.puts(t)
}

// led reports whether the node did what the leader does.
func (c change) led() bool {
	leader, is := agree.Leader(c.before)
	if !is || leader != c.me || !c.all(by(stage.Leader)) {
		return false
	}
	return c.agreed() && c.numbered() && c.puts(c.turns...)
}

// felled reports whether some became Down.
func (c change) felled() bool {
	return c.all(by(stage.Any)) && c.all(kept) && c.puts(c.turns...)
}

// agreed reports whether those agree who must, for the leader to do what it did: all, or, where it made members Weak alone, all that are reached.
func (c change) agreed() bool {
	if agree.All(c.before) {
		return true
	}
	weak := c.all(func(t Turn) bool { return t.To.Status == api.Weak })
	return weak && agree.Reaching(c.before) && len(agree.NotReached(c.before)) > 0
}

// numbered reports whether those that are newly Up have the next numbers, in the order of their IDs, and all others those that they had.
func (c change) numbered() bool {
	next := roster.Next(c.before.Members)
	return c.all(func(t Turn) bool {
		if t.To.Status != api.Up {
			return kept(t)
		}
		next++
		return t.To.No == next-1
	})
}

// all reports whether something holds for all that changed.
func (c change) all(holds func(t Turn) bool) bool {
	return !slices.ContainsFunc(c.turns, func(t Turn) bool { return !holds(t) })
}

// puts reports whether the view after results from replacing members as they turned, one after another.
func (c change) puts(l ...Turn) bool {
	to := make([]api.Member, len(l))
	for i, t := range l {
		to[i] = t.To
	}
	return c.makes(Does(c.me, c.before, to))
}

// makes reports whether the view after is what a call returned without an error.
func (c change) makes(v api.View, e api.Errno) bool {
	return e == api.OK && view.Same(v, c.after)
}

// by returns whether a status changed along an edge of an actor's.
func by(actor uint8) func(t Turn) bool {
	return func(t Turn) bool { return stage.Edge(t.From.Status, t.To.Status)&actor != 0 }
}

// kept reports whether a member has the number that it had.
func kept(t Turn) bool {
	return t.To.No == t.From.No
}
