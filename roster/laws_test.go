package roster_test

import (
	"testing"

	"covey/api"
	"covey/roster"
)

// validOnes is what may be known: all of an address, and of all addresses what is drawn.
func validOnes() []known {
	all := validAt(3)
	d := draw(4)
	for range 25 {
		all = append(all, d.valid(3, 3), d.valid(2, 1), d.valid(9, 20))
	}
	return append(all, rise(12), known{})
}

// anyOnes is what need not be valid.
func anyOnes() []known {
	d := draw(5)
	few := membersOf(fewIDs(), anyStatuses(), []int{-1, 0, 1, 2, 1 << 40, 1<<40 + 1})
	many := membersOf(anyIDs(), []uint8{0, 1, 3, 6, 7, 8}, anyNumbers())
	all := []known{{m: several()}}
	for n := range 25 {
		all = append(all, d.any(n, few, fewIDs()), d.any(n, few, someFloors(n)), d.any(n, many, anyIDs()))
	}
	return all
}

// someFloors are floors of which some are not valid.
func someFloors(n int) []api.ID { return ids(id(1, n-3), id(13, n), id(2, 1), id(3, 4)) }

func checkSame(t *testing.T, law string, got, want known, of ...known) {
	t.Helper()
	if !equal(got, want) || !roster.Same(got.m, want.m) {
		t.Fatalf("%s of %v: %v, and %v", law, of, got, want)
	}
}

// P7.3: Join is commutative, of any lists.
func TestJoinIsCommutative(t *testing.T) {
	all := append(validOnes(), anyOnes()...)
	for _, a := range all {
		for _, b := range all {
			checkSame(t, "Join either way", join(a, b), join(b, a), a, b)
		}
	}
}

// P7.3: Join is associative, of any lists: all valid ones of an address, and others that are drawn.
func TestJoinIsAssociative(t *testing.T) {
	valid, drawn := validAt(1), append(anyOnes()[:31], validOnes()[30:50]...)
	for _, all := range [][]known{valid, drawn} {
		for _, a := range all {
			for _, b := range all {
				ab := join(a, b)
				for _, c := range all {
					checkSame(t, "Join, associated", join(ab, c), join(a, join(b, c)), a, b, c)
				}
			}
		}
	}
}

// P7.3: Join is idempotent: of valid lists at once, of any others the second time.
func TestJoinIsIdempotent(t *testing.T) {
	for _, a := range validOnes() {
		checkSame(t, "Join with itself", join(a, a), a, a)
		checkSame(t, "Join with nothing", join(a, known{}), a, a)
		checkSame(t, "Join of nothing", join(known{}, a), a, a)
	}
	for _, a := range anyOnes() {
		once := join(a, known{})
		checkSame(t, "Join with itself", join(a, a), once, a)
		checkSame(t, "Join again", join(once, once), once, a)
		for _, b := range append(validOnes(), anyOnes()...) {
			both := join(a, b)
			checkSame(t, "Join again", join(both, a), both, a, b)
			checkSame(t, "Join again", join(b, both), both, a, b)
		}
	}
}

// P7.3: what many know, joined in drawn orders, some of it several times, gives the same.
func TestJoinOfMany(t *testing.T) {
	d := draw(6)
	valid, any := validOnes(), anyOnes()
	for range 60 {
		all := append(pick(&d, 4, valid), pick(&d, 3, any)...)
		want := joinOf(all...)
		all = append(all, pick(&d, 3, all)...)
		for range 20 {
			var got known
			for i := range all {
				k := d.below(i + 1)
				all[i], all[k] = all[k], all[i]
			}
			for _, k := range all {
				got = join(got, k)
			}
			checkSame(t, "Join in any order", got, want, all...)
		}
	}
}

// numbered returns what is known with numbers that may be.
func numbered(k known) known {
	k = deep(k)
	for i, x := range k.m {
		k.m[i].No = 0
		if x.Status == 3 || x.Status == 4 {
			k.m[i].No = 1
		}
	}
	return k
}

// P7.4: the Join of valid lists is valid.
func TestJoinOfValidListsIsValid(t *testing.T) {
	d := draw(7)
	all := validOnes()
	for _, a := range all {
		if !roster.May(a.m, a.f) {
			t.Fatalf("May(%v): false", a)
		}
		for _, b := range all {
			for _, c := range append(pick(&d, 3, all), known{}) {
				if got := join(join(a, b), c); !roster.May(got.m, got.f) {
					t.Fatalf("Join of %v, %v and %v: %v, is not valid", a, b, c, got)
				}
			}
		}
	}
}

// P7.4: the Join of any other lists is valid except for numbers.
func TestJoinOfAnyListsIsValidButForNumbers(t *testing.T) {
	all := append(anyOnes(), validOnes()...)
	others := 0
	for _, a := range anyOnes() {
		for _, b := range all {
			got := join(a, b)
			if k := numbered(got); !roster.May(k.m, k.f) {
				t.Fatalf("Join(%v, %v): %v, is not valid even with other numbers", a, b, got)
			}
			if !roster.May(got.m, got.f) {
				others++
			}
		}
	}
	if others == 0 {
		t.Error("no Join had a number that may not be")
	}
}

// P7.5: in a Join no status is less than it was, no number greater (except from none), no floor lower; who is gone stays gone, and is not a member.
func TestNeverBack(t *testing.T) {
	var kept, gone int
	others := append(validOnes(), anyOnes()...)
	for _, a := range validOnes() {
		for _, b := range others {
			got := join(a, b)
			for _, x := range a.m {
				y, is := roster.Get(got.m, x.ID)
				if is == roster.Gone(got.f, x.ID) {
					t.Fatalf("Join(%v, %v): %v: is %v a member, or gone?", a, b, got, x.ID)
				}
				if !is {
					gone++
					continue
				}
				kept++
				if y.Status < x.Status || x.No > 0 && (y.No > x.No || y.No < 1) {
					t.Fatalf("Join(%v, %v): %v became %v", a, b, x, y)
				}
			}
			for addr := 1; addr <= 12; addr++ {
				if now := roster.Floor(got.f, addr); now < roster.Floor(a.f, addr) {
					t.Fatalf("Join(%v, %v): the floor of %d is %d", a, b, addr, now)
				}
			}
			for _, x := range got.m {
				if roster.Gone(a.f, x.ID) || roster.Gone(got.f, x.ID) {
					t.Fatalf("Join(%v, %v): %v is gone, and a member", a, b, x)
				}
			}
		}
	}
	if kept == 0 || gone == 0 {
		t.Errorf("kept: %d, gone: %d", kept, gone)
	}
}

// P7.6: of two lives of an address, in either list, or in one, the newer one is there, if it is not gone; the older one is gone.
func TestOneLife(t *testing.T) {
	floors := [][]api.ID{nil, ids(id(5, 1)), ids(id(5, 2)), ids(id(5, 3)), ids(id(5, 4)), ids(id(4, 9), id(6, 9))}
	for _, s := range []uint8{1, 2, 3, 4, 5, 6, 7} {
		for _, u := range []uint8{1, 2, 3, 4, 5, 6, 7} {
			for _, incs := range [][2]int{{1, 2}, {1, 3}, {2, 3}, {3, 4}} {
				for _, f := range floors {
					old, anew := member(5, incs[0], s, 4), member(5, incs[1], u, 6)
					for _, got := range []known{
						join(known{members(old), f}, known{m: members(anew)}),
						join(known{members(anew), f}, known{m: members(old)}),
						join(known{m: members(anew, old)}, known{f: f}),
						join(known{f: f}, known{m: members(old, anew)}),
						set(known{members(old), f}, anew),
						set(known{members(anew), f}, old),
					} {
						y, is := roster.Get(got.m, anew.ID)
						if is != (u < 7 && incs[1] > floorOf(f, 5)) || is && y != anew || is == roster.Gone(got.f, anew.ID) {
							t.Fatalf("%v after %v, floors %v: %v", anew, old, f, got)
						}
						if _, is := roster.Get(got.m, old.ID); is || !roster.Gone(got.f, old.ID) {
							t.Fatalf("%v before %v, floors %v: %v", old, anew, f, got)
						}
					}
				}
			}
		}
	}
	for _, a := range validOnes() {
		for _, b := range validOnes() {
			got := join(a, b)
			for _, x := range a.m {
				y, is := roster.At(b.m, x.ID.Addr)
				if !is || x.ID == y.ID {
					continue
				}
				older, newer := min(x.ID.Inc, y.ID.Inc), max(x.ID.Inc, y.ID.Inc)
				z, is := roster.At(got.m, x.ID.Addr)
				if !roster.Gone(got.f, id(x.ID.Addr, older)) || is == roster.Gone(got.f, id(x.ID.Addr, newer)) || is && z.ID.Inc != newer {
					t.Fatalf("Join(%v, %v): %v", a, b, got)
				}
			}
		}
	}
}

// P7.7: Set changes nothing for other addresses, whatever the member is, and nothing at all if that does not count.
func TestSetLeavesOtherAddresses(t *testing.T) {
	d := draw(8)
	all := append(membersOf(fewIDs(), anyStatuses(), []int{-1, 0, 1, 1<<40 + 1}), pick(&d, 200, membersOf(anyIDs(), anyStatuses(), anyNumbers()))...)
	for _, k := range validOnes() {
		for _, x := range all {
			got := set(k, x)
			if (!validID(x.ID) || x.Status < 1 || x.Status > 7) && !equal(got, k) {
				t.Fatalf("Set(%v, %v): %v", k, x, got)
			}
			for addr := 1; addr <= 12; addr++ {
				before, was := roster.At(k.m, addr)
				after, is := roster.At(got.m, addr)
				if addr != x.ID.Addr && (after != before || is != was || roster.Floor(got.f, addr) != roster.Floor(k.f, addr)) {
					t.Fatalf("Set(%v, %v): %v: other ones at %d", k, x, got, addr)
				}
			}
		}
	}
}

// P7.7: Next is greater than all numbers, as long as they are below MaxNumber, and itself a number that may be.
func TestNextIsGreater(t *testing.T) {
	d := draw(9)
	numbers := []int{0, 1, 2, 3, 1 << 39, 1<<40 - 2, 1<<40 - 1}
	for _, k := range append(validOnes(), known{m: members(member(1, 1, api.Up, 1<<40-1))}) {
		for i := range k.m {
			k.m[i].No = numbers[d.below(len(numbers))]
		}
		next := roster.Next(k.m)
		for _, x := range k.m {
			if next <= x.No {
				t.Fatalf("Next(%v): %d", k.m, next)
			}
		}
		for addr := 1; addr <= 12; addr++ {
			if x := member(addr, 1, api.Up, next); !roster.May(members(x), nil) {
				t.Fatalf("%v is not valid", x)
			}
		}
	}
}

// P7.5, P7.7: member after member is set, each new one with the next number: no number is there twice, and the oldest one is the first that is not gone.
func TestManyAreSet(t *testing.T) {
	d := draw(10)
	var k, early known
	var since []api.ID
	lives := [13]int{}
	for n := range 2000 {
		addr := 1 + d.below(12)
		x := member(addr, max(1, lives[addr]), uint8(4+d.below(4)), 0)
		if d.below(3) == 0 {
			lives[addr]++
			x = member(addr, lives[addr], api.Up, roster.Next(k.m))
			since = append(since, x.ID)
		}
		k = set(k, x)
		if n%40 == 0 {
			early = k
		}
		checkSame(t, "Join with what was before", join(early, k), k, early)
		for len(since) > 0 && roster.Gone(k.f, since[0]) {
			since = since[1:]
		}
		got, is := roster.Oldest(k.m)
		if is != (len(since) > 0) || is && got.ID != since[0] {
			t.Fatalf("Oldest(%v): %v, %t, not the first one of %v", k, got, is, since)
		}
		numbers := map[int]int{}
		for _, x := range k.m {
			numbers[x.No]++
			if x.No > 0 && numbers[x.No] > 1 {
				t.Fatalf("%v: the number %d twice", k, x.No)
			}
		}
	}
}
