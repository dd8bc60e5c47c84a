package roster_test

import (
	"cmp"
	"maps"
	"math"
	"slices"
	"testing"

	"covey/api"
	"covey/roster"
)

// The chapter's terms in another way than the package has them: what occurs of an address is gathered in maps and sorted, and all limits and statuses stand here as numbers, so that no constant is taken on trust.

// known is what is known of some addresses: members, and floors.
type known struct {
	m []api.Member
	f []api.ID
}

func order(a, b api.ID) int {
	return cmp.Or(cmp.Compare(a.Addr, b.Addr), cmp.Compare(a.Inc, b.Inc))
}

func validID(x api.ID) bool {
	return x.Addr >= 1 && x.Addr <= 12 && x.Inc >= 1 && x.Inc <= 1048576
}

// validMember tells which members may be: those of each status with which numbers.
func validMember(x api.Member) bool {
	least := map[uint8]int{1: 0, 2: 0, 3: 1, 4: 1, 5: 0, 6: 0}
	most := map[uint8]int{1: 0, 2: 0, 3: 1099511627776, 4: 1099511627776, 5: 1099511627776, 6: 1099511627776}
	_, is := least[x.Status]
	return is && validID(x.ID) && x.No >= least[x.Status] && x.No <= most[x.Status]
}

func mayOf(k known) bool {
	addrs := map[int]int{}
	for i, x := range k.m {
		addrs[x.ID.Addr]++
		if !validMember(x) || addrs[x.ID.Addr] > 1 || i > 0 && order(k.m[i-1].ID, x.ID) >= 0 {
			return false
		}
	}
	floors := map[int]int{}
	for i, id := range k.f {
		if _, twice := floors[id.Addr]; twice || !validID(id) || i > 0 && k.f[i-1].Addr > id.Addr {
			return false
		}
		floors[id.Addr] = id.Inc
	}
	return !slices.ContainsFunc(k.m, func(x api.Member) bool { return x.ID.Inc <= floors[x.ID.Addr] })
}

func floorOf(f []api.ID, addr int) int {
	incs := []int{0}
	for _, id := range f {
		if id.Addr == addr {
			incs = append(incs, id.Inc)
		}
	}
	return slices.Max(incs)
}

// sortedBy returns those members of a list that are asked for, in some order: of several that are the same in it, in that of the list.
func sortedBy(m []api.Member, is func(x api.Member) bool, by func(x, y api.Member) int) []api.Member {
	var out []api.Member
	for _, x := range m {
		if is(x) {
			out = append(out, x)
		}
	}
	slices.SortStableFunc(out, by)
	return out
}

func getOf(m []api.Member, id api.ID) []api.Member {
	return sortedBy(m, func(x api.Member) bool { return x.ID == id }, func(x, y api.Member) int { return 0 })
}

func atOf(m []api.Member, addr int) []api.Member {
	return sortedBy(m, func(x api.Member) bool { return x.ID.Addr == addr }, func(x, y api.Member) int { return cmp.Compare(y.ID.Inc, x.ID.Inc) })
}

func oldestOf(m []api.Member) []api.Member {
	return sortedBy(m, func(x api.Member) bool { return x.No > 0 }, func(x, y api.Member) int {
		return cmp.Or(cmp.Compare(x.No, y.No), order(x.ID, y.ID))
	})
}

func nextOf(m []api.Member) int {
	numbers := []int{0}
	for _, x := range m {
		numbers = append(numbers, x.No)
	}
	if n := slices.Max(numbers); n > 1099511627775 {
		return n
	}
	return slices.Max(numbers) + 1
}

// joinOf returns the union of what is known, address by address.
func joinOf(all ...known) known {
	var out known
	for addr := 1; addr <= 12; addr++ {
		lives := map[int][]api.Member{}
		floors := []int{0}
		for _, k := range all {
			for _, id := range k.f {
				if id.Addr == addr && validID(id) {
					floors = append(floors, id.Inc)
				}
			}
			for _, x := range k.m {
				if x.ID.Addr != addr || !validID(x.ID) || x.Status < 1 || x.Status > 7 {
					continue
				}
				lives[x.ID.Inc] = append(lives[x.ID.Inc], x)
				if x.Status == 7 {
					floors = append(floors, x.ID.Inc)
				}
			}
		}
		incs := slices.Sorted(maps.Keys(lives))
		floors = append(floors, incs[:max(0, len(incs)-1)]...)
		if floor := slices.Max(floors); floor > 0 {
			out.f = append(out.f, id(addr, floor))
		}
		for _, inc := range incs {
			if inc > slices.Max(floors) {
				out.m = append(out.m, oneOf(lives[inc]))
			}
		}
	}
	return out
}

// oneOf returns what several entries of one ID say together.
func oneOf(l []api.Member) api.Member {
	out := api.Member{ID: l[0].ID}
	var numbers []int
	for _, x := range l {
		out.Status = max(out.Status, x.Status)
		if x.No > 0 {
			numbers = append(numbers, x.No)
		}
	}
	if len(numbers) > 0 {
		out.No = slices.Min(numbers)
	}
	return out
}

func join(a, b known) known {
	m, f := roster.Join(a.m, a.f, b.m, b.f)
	return known{m, f}
}

func set(k known, x api.Member) known {
	m, f := roster.Set(k.m, k.f, x)
	return known{m, f}
}

// equal reports whether the same is known, to the letter.
func equal(a, b known) bool {
	return slices.Equal(a.m, b.m) && slices.Equal(a.f, b.f)
}

// checkFound holds what was found against the first one of those that could be.
func checkFound(t *testing.T, call string, m []api.Member, got api.Member, is bool, could []api.Member) {
	t.Helper()
	if len(could) == 0 && (is || got != api.Member{}) || len(could) > 0 && (!is || got != could[0]) {
		t.Fatalf("%s of %v: %v, %t, not the first one of %v", call, m, got, is, could)
	}
}

// checkOne holds all calls about what is known at one place against the model, for an ID and a member.
func checkOne(t *testing.T, k known, of api.ID, x api.Member) {
	t.Helper()
	if got := roster.May(k.m, k.f); got != mayOf(k) {
		t.Fatalf("May(%v): %t", k, got)
	}
	if got, want := roster.Floor(k.f, of.Addr), floorOf(k.f, of.Addr); got != want {
		t.Fatalf("Floor(%v, %d): %d, not %d", k.f, of.Addr, got, want)
	}
	if got, want := roster.Gone(k.f, of), of.Inc <= floorOf(k.f, of.Addr); got != want {
		t.Fatalf("Gone(%v, %v): %t", k.f, of, got)
	}
	got, is := roster.Get(k.m, of)
	checkFound(t, "Get", k.m, got, is, getOf(k.m, of))
	got, is = roster.At(k.m, of.Addr)
	checkFound(t, "At", k.m, got, is, atOf(k.m, of.Addr))
	got, is = roster.Oldest(k.m)
	checkFound(t, "Oldest", k.m, got, is, oldestOf(k.m))
	if got, want := roster.Next(k.m), nextOf(k.m); got != want {
		t.Fatalf("Next(%v): %d, not %d", k.m, got, want)
	}
	if got, want := set(k, x), joinOf(k, known{m: []api.Member{x}}); !equal(got, want) {
		t.Fatalf("Set(%v, %v): %v, not %v", k, x, got, want)
	}
}

// checkTwo holds all calls about what is known at two places against the model.
func checkTwo(t *testing.T, a, b known) {
	t.Helper()
	if got, want := join(a, b), joinOf(a, b); !equal(got, want) {
		t.Fatalf("Join(%v, %v): %v, not %v", a, b, got, want)
	}
	if got := roster.Same(a.m, b.m); got != slices.Equal(a.m, b.m) {
		t.Fatalf("Same(%v, %v): %t", a.m, b.m, got)
	}
}

func id(addr, inc int) api.ID { return api.ID{Addr: addr, Inc: inc} }

func member(addr, inc int, status uint8, no int) api.Member {
	return api.Member{ID: id(addr, inc), Status: status, No: no}
}

func members(l ...api.Member) []api.Member { return l }

func ids(l ...api.ID) []api.ID { return l }

// fewIDs are some that differ in one number alone, or in both, one of which increases while the other one decreases.
func fewIDs() []api.ID { return ids(id(1, 1), id(1, 2), id(2, 1), id(3, 5)) }

// anyNumbers are the limits of addresses, incarnations and numbers, what is beside them, and the ends of all numbers.
func anyNumbers() []int {
	return []int{math.MinInt, math.MinInt + 1, -1, 0, 1, 2, 11, 12, 13, 1<<20 - 1, 1 << 20, 1<<20 + 1, 1<<40 - 1, 1 << 40, 1<<40 + 1, math.MaxInt - 1, math.MaxInt}
}

// anyIDs are IDs, most of them invalid, of all pairs of these numbers.
func anyIDs() []api.ID {
	var l []api.ID
	for _, addr := range anyNumbers() {
		for _, inc := range anyNumbers() {
			l = append(l, id(addr, inc))
		}
	}
	return l
}

// anyStatuses are all statuses, and the values beside them.
func anyStatuses() []uint8 { return []uint8{0, 1, 2, 3, 4, 5, 6, 7, 8, 9, 255} }

// membersOf are all members of some IDs, statuses and numbers.
func membersOf(of []api.ID, statuses []uint8, numbers []int) []api.Member {
	var l []api.Member
	for _, x := range of {
		for _, status := range statuses {
			for _, no := range numbers {
				l = append(l, api.Member{ID: x, Status: status, No: no})
			}
		}
	}
	return l
}

// listsOf are all lists of some things up to a length, in every order, with each one any number of times.
func listsOf[T any](things []T, longest int) [][]T {
	lists := [][]T{nil}
	for from := 0; len(lists[from]) < longest; from++ {
		for _, x := range things {
			lists = append(lists, append(slices.Clone(lists[from]), x))
		}
	}
	return lists
}

// validAt is all that may be known of an address, with lives 1 and 2 alone, and few numbers.
func validAt(addr int) []known {
	var all []known
	for floor := range 3 {
		var f []api.ID
		if floor > 0 {
			f = ids(id(addr, floor))
		}
		all = append(all, known{f: f})
		for inc := floor + 1; inc <= 2; inc++ {
			for _, x := range membersOf(ids(id(addr, inc)), []uint8{1, 2, 3, 4, 5, 6}, []int{0, 1, 2}) {
				if validMember(x) {
					all = append(all, known{members(x), f})
				}
			}
		}
	}
	return all
}

// rise returns valid members of n addresses, at most 12, each above a floor.
func rise(n int) known {
	var k known
	for i := range n {
		status := uint8(1 + i%6)
		x := member(12-n+i+1, 2+i, status, 1+i*7%5)
		if status < 3 {
			x.No = 0
		}
		k.m = append(k.m, x)
		k.f = append(k.f, id(x.ID.Addr, 1+i))
	}
	return k
}

// deep returns what is known in new memory.
func deep(k known) known { return known{slices.Clone(k.m), slices.Clone(k.f)} }

// fall returns what is known in reverse order.
func fall(k known) known {
	out := deep(k)
	slices.Reverse(out.m)
	slices.Reverse(out.f)
	return out
}

// draw returns the next one of a fixed sequence of numbers.
type draw uint64

func (d *draw) below(n int) int {
	*d = *d*6364136223846793005 + 1442695040888963407
	return int(uint64(*d)>>20) % n
}

// pick draws n things of a list, each any number of times.
func pick[T any](d *draw, n int, of []T) []T {
	l := make([]T, n)
	for i := range l {
		l[i] = of[d.below(len(of))]
	}
	return l
}

// valid draws what may be known of all addresses.
func (d *draw) valid(lives, numbers int) known {
	var k known
	for addr := 1; addr <= 12; addr++ {
		floor := d.below(lives)
		if floor > 0 {
			k.f = append(k.f, id(addr, floor))
		}
		x := member(addr, floor+1+d.below(lives), uint8(1+d.below(6)), d.below(numbers+1))
		if validMember(x) {
			k.m = append(k.m, x)
		}
	}
	return k
}

// any draws what need not be valid: n members and some floors, in any order.
func (d *draw) any(n int, of []api.Member, floors []api.ID) known {
	return known{pick(d, n, of), pick(d, d.below(n+1), floors)}
}
