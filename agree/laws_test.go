package agree_test

import (
	"slices"
	"testing"

	"covey/agree"
	"covey/api"
)

// views are views for the laws, valid and others.
func views(seed draw) []api.View {
	return append(validViews(seed, 12), anyViews(seed+1, 400)...)
}

// P9.1: all calls, of each pair of statuses, with each row that two members and one who is none may have, and whoever has seen it, against the model.
func TestEachPair(t *testing.T) {
	rows := [][]api.Row{nil, {row(z, a)}, {row(z, b, a)}}
	for _, first := range [][]api.ID{nil, ids(a), ids(b), ids(a, b), ids(b, z)} {
		for _, second := range [][]api.ID{nil, ids(a), ids(b), ids(b, a)} {
			rows = append(rows, []api.Row{row(a, first...), row(b, second...)})
		}
	}
	for n := range 81 {
		v := api.View{Members: []api.Member{member(1, uint8(n%9)), member(2, uint8(n/9))}}
		for _, v.Rows = range rows {
			for _, v.Seen = range [][]api.ID{nil, ids(a), ids(b), ids(a, b), ids(b, a, z)} {
				check(t, v)
			}
		}
	}
}

// P9.1: all calls, of each three members with statuses that may be, and each of their rows, against the model.
func TestEachThree(t *testing.T) {
	others := [][]api.ID{ids(b, c), ids(a, c), ids(a, b)}
	not := func(of, n int) []api.ID {
		return [][]api.ID{nil, others[of][:1], others[of][1:], others[of]}[n]
	}
	for n := range 216 {
		v := of(uint8(1+n%6), uint8(1+n/6%6), uint8(1+n/36))
		for k := range 64 {
			v.Rows = []api.Row{row(a, not(0, k%4)...), row(b, not(1, k/4%4)...), row(c, not(2, k/16)...)}
			v.Seen = [][]api.ID{ids(a, b, c), ids(b, c), ids(a, c), ids(a, b)}[(n+k)%4]
			check(t, v)
		}
	}
}

// P9.1: all calls, of whatever there is, against the model; and each of their answers is there often.
func TestDrawn(t *testing.T) {
	counts := map[string]int{}
	for _, v := range validViews(1, 60) {
		check(t, v)
		_, led := agree.Leader(v)
		for name, is := range map[string]bool{
			"all": agree.All(v), "only those that are reached": agree.Reaching(v) && !agree.All(v), "neither": !agree.Reaching(v),
			"all, with some not reached": agree.All(v) && len(agree.NotReached(v)) > 0,
			"no leader":                  !led, "some not reached": len(agree.NotReached(v)) > 1,
		} {
			if is {
				counts[name]++
			}
		}
	}
	for _, name := range []string{"all", "only those that are reached", "neither", "all, with some not reached", "no leader", "some not reached"} {
		if counts[name] < 25 {
			t.Errorf("%s: %d views alone", name, counts[name])
		}
	}
	for _, v := range anyViews(2, 4000) {
		check(t, v)
	}
	for _, v := range views(3) {
		check(t, reversed(v))
		check(t, twice(v))
	}
}

// P9.1: neither floors, nor clocks, nor numbers, nor versions, nor the order of rows and of those in them, nor that of valid members, matter.
func TestWhatDoesNotMatter(t *testing.T) {
	for _, v := range validViews(4, 20) {
		was := got(v)
		w := reversed(v)
		w.Floors, w.Clock = v.Floors, nil
		w.Seen = slices.Concat(w.Seen, w.Seen)
		for i := range w.Members {
			w.Members[i].No = 77 - w.Members[i].No
		}
		for i, r := range w.Rows {
			w.Rows[i].Version, w.Rows[i].Not = -r.Version, append(r.Not, r.Not...)
		}
		now := answers{not: agree.NotReached(w), reached: was.reached, all: agree.All(w), reaching: agree.Reaching(w)}
		now.leader, now.led = agree.Leader(w)
		if !equal(now, was) {
			t.Fatalf("%v: %v, but %v: %v", v, was, w, now)
		}
		for _, x := range about(v) {
			if agree.Reached(w, x) != agree.Reached(v, x) {
				t.Fatalf("Reached of %v: %v and %v are not alike", x, v, w)
			}
		}
		w = deep(v)
		w.Floors, w.Clock = ids(id(1, 1048576), id(2, 1048576)), []api.Tick{{Of: a, N: 9}}
		now = answers{not: agree.NotReached(w), reached: was.reached, all: agree.All(w), reaching: agree.Reaching(w)}
		now.leader, now.led = agree.Leader(w)
		if !equal(now, was) {
			t.Fatalf("%v: %v, but %v: %v", v, was, w, now)
		}
	}
}

// P9.1: what is not reached increases, and what is reached is a member that is not in it.
func TestReached(t *testing.T) {
	for _, v := range views(5) {
		not := agree.NotReached(v)
		for i := 1; i < len(not); i++ {
			if !before(not[i-1], not[i]) {
				t.Fatalf("NotReached of %v: %v", v, not)
			}
		}
		for _, x := range about(v) {
			if agree.Reached(v, x) != (isMember(v, x) && !slices.Contains(not, x)) {
				t.Fatalf("Reached(%v, %v): %t", v, x, agree.Reached(v, x))
			}
		}
		for _, x := range not {
			if !isMember(v, x) || agree.Reached(v, x) {
				t.Fatalf("NotReached of %v: %v", v, not)
			}
		}
	}
}

// P9.2: who has seen a view does not matter for who is not reached, and who leads.
func TestSeen(t *testing.T) {
	d := draw(6)
	for _, v := range views(7) {
		not := agree.NotReached(v)
		leader, led := agree.Leader(v)
		for _, seen := range [][]api.ID{nil, {}, ids(z), about(v), pick(&d, 3, about(v)), pick(&d, 9, about(v))} {
			w := deep(v)
			w.Seen = seen
			l, is := agree.Leader(w)
			if !slices.Equal(agree.NotReached(w), not) || l != leader || is != led {
				t.Fatalf("%v: %v, %v, %t; %v: %v, %v, %t", v, not, leader, led, w, agree.NotReached(w), l, is)
			}
			for _, x := range about(v) {
				if agree.Reached(w, x) != agree.Reached(v, x) {
					t.Fatalf("Reached of %v: %v and %v are not alike", x, v, w)
				}
			}
		}
	}
}

// P9.3: if more have seen a view, whoever agreed still does, one after another until all have seen it.
func TestMoreSeen(t *testing.T) {
	d := draw(8)
	became, becameReaching := 0, 0
	for _, v := range views(9) {
		more := pick(&d, 12, about(v))
		all, reaching := agree.All(v), agree.Reaching(v)
		w := deep(v)
		for _, x := range append(more, about(v)...) {
			w.Seen = slices.Insert(w.Seen, d.below(len(w.Seen)+1), x)
			nowAll, nowReaching := agree.All(w), agree.Reaching(w)
			if all && !nowAll || reaching && !nowReaching {
				t.Fatalf("%v: All %t, Reaching %t, but %v: All %t, Reaching %t", v, all, reaching, w, nowAll, nowReaching)
			}
			if nowAll && !all {
				became++
			}
			if nowReaching && !reaching {
				becameReaching++
			}
			all, reaching = nowAll, nowReaching
		}
	}
	if became < 20 || becameReaching < 50 {
		t.Errorf("%d and %d views alone became agreed", became, becameReaching)
	}
}

// P9.4: if all agree, all that are reached agree.
func TestImplication(t *testing.T) {
	all, reaching := 0, 0
	for _, v := range append(views(10), validViews(11, 40)...) {
		if agree.All(v) && !agree.Reaching(v) {
			t.Fatalf("%v: All, but not Reaching", v)
		}
		if agree.All(v) {
			all++
		}
		if agree.Reaching(v) {
			reaching++
		}
	}
	if all < 100 || reaching < all+100 {
		t.Errorf("%d views in which all agree, %d in which those that are reached do", all, reaching)
	}
}

// P9.5: the leader is reached, below Exiting, and the least of its rank; no rank before its own has somebody; there is one if somebody below Exiting is reached.
func TestTheLeader(t *testing.T) {
	ranked := [4]int{}
	for _, v := range append(validViews(12, 40), anyViews(13, 800)...) {
		leader, led := agree.Leader(v)
		is := false
		for _, m := range v.Members {
			rank := rankOf(statusOf(v, m.ID))
			if rank == 0 || !agree.Reached(v, m.ID) {
				continue
			}
			is = true
			if own := rankOf(statusOf(v, leader)); rank < own || rank == own && before(m.ID, leader) {
				t.Fatalf("Leader of %v: %v, not %v", v, leader, m.ID)
			}
		}
		if led != is || !led && leader != (api.ID{}) {
			t.Fatalf("Leader of %v: %v, %t", v, leader, led)
		}
		if !led {
			ranked[0]++
			continue
		}
		if !agree.Reached(v, leader) || rankOf(statusOf(v, leader)) == 0 {
			t.Fatalf("Leader of %v: %v", v, leader)
		}
		ranked[rankOf(statusOf(v, leader))]++
	}
	for rank, n := range ranked {
		if n < 40 {
			t.Errorf("%d views alone with a leader of the rank %d", n, rank)
		}
	}
}

// P9.6: rows of those that are not members, or Down, do not matter, nor what somebody says of itself.
func TestRowsThatDoNotMatter(t *testing.T) {
	d := draw(14)
	for _, v := range views(15) {
		was := got(v)
		w := deep(v)
		w.Rows = slices.DeleteFunc(w.Rows, func(r api.Row) bool { return !isMember(v, r.Of) || statusOf(v, r.Of) == 6 })
		for i, r := range w.Rows {
			w.Rows[i].Not = slices.DeleteFunc(r.Not, func(x api.ID) bool { return x == r.Of })
		}
		now := got(w)
		if !slices.Equal(now.not, was.not) || now.all != was.all || now.reaching != was.reaching || now.leader != was.leader {
			t.Fatalf("%v: %v, but %v: %v", v, was, w, now)
		}
		// And more of them make no difference.
		for _, x := range about(v) {
			if !isMember(v, x) || statusOf(v, x) == 6 {
				w.Rows = slices.Insert(w.Rows, d.below(len(w.Rows)+1), row(x, about(v)...))
			} else {
				w.Rows = append(w.Rows, row(x, x))
			}
		}
		now = got(w)
		if !slices.Equal(now.not, was.not) || now.all != was.all || now.reaching != was.reaching || now.leader != was.leader {
			t.Fatalf("%v: %v, but %v: %v", v, was, w, now)
		}
	}
}

// P9.6: with an additional row nobody else becomes reached; whoever is not reached besides is in it.
func TestMoreRows(t *testing.T) {
	d := draw(16)
	more := 0
	for _, v := range views(17) {
		w := deep(v)
		for range 6 {
			was := agree.NotReached(w)
			r := row(pick(&d, 1, about(v))[0], pick(&d, d.below(4), about(v))...)
			w.Rows = slices.Insert(w.Rows, d.below(len(w.Rows)+1), r)
			now := agree.NotReached(w)
			for _, x := range was {
				if !slices.Contains(now, x) {
					t.Fatalf("with the row %v of %v: %v became %v", r, w, was, now)
				}
			}
			for _, x := range now {
				if !slices.Contains(was, x) && !slices.Contains(r.Not, x) {
					t.Fatalf("with the row %v of %v: %v became %v", r, w, was, now)
				}
			}
			if len(now) > len(was) {
				more++
			}
		}
	}
	if more < 300 {
		t.Errorf("%d rows alone that say something", more)
	}
}

// P9.7: if the rows of exactly some members say that all others are not reached, and no others say anything, these are not reached, and nobody else, if one of the some is below Down.
func TestPartition(t *testing.T) {
	d := draw(18)
	down := 0
	for _, v := range validViews(19, 40) {
		var some, others []api.ID
		below := false
		for _, m := range v.Members {
			if d.below(2) == 0 {
				some = append(some, m.ID)
				below = below || m.Status < 6
			} else {
				others = append(others, m.ID)
			}
		}
		v.Rows = nil
		for _, x := range some {
			v.Rows = append(v.Rows, row(x, others...))
		}
		want := others
		if !below {
			want = nil
			down++
		}
		if got := agree.NotReached(v); !slices.Equal(got, want) {
			t.Fatalf("NotReached(%v): %v, not %v", v, got, want)
		}
		for _, x := range some {
			if !agree.Reached(v, x) {
				t.Fatalf("Reached(%v, %v): false", v, x)
			}
		}
		for _, x := range others {
			if agree.Reached(v, x) == below {
				t.Fatalf("Reached(%v, %v): %t", v, x, !below)
			}
		}
	}
	if down < 20 {
		t.Errorf("%d views alone in which nobody says anything", down)
	}
}
