package entry_test

import (
	"slices"
	"testing"

	"covey/entry"
)

// moment is a tick of a run, and what it returned.
type moment struct {
	asks     []int
	alone    bool
	answered bool // whether a seed had answered
}

// run performs so many ticks, with an answer now and then, if any.
func run(b *both, d *draw, n, often int) []moment {
	var out []moment
	answered := false
	for range n {
		if often > 0 && d.below(often) == 0 {
			b.entry.Answered()
			answered = true
		}
		asks, alone := b.entry.Tick()
		out = append(out, moment{asks, alone, answered})
	}
	return out
}

// P19.3: it asks in no tick except the first one, and each Retry-th one from there on; of any Retry ticks it asks in one.
func TestInTime(t *testing.T) {
	met := 0
	for d := range draw(2000) {
		b := d.node(t)
		retry, asked := b.model.retry, 0
		all := run(b, &d, 5*retry+3, pick(&d, 0, 4, 30))
		for n, m := range all {
			if (len(m.asks) > 0) && n%retry != 0 {
				t.Fatalf("of %v asks %v in tick %d", b.model, m.asks, n+1)
			}
			if len(m.asks) > 0 {
				asked++
			}
		}
		if len(b.model.whom()) == 0 {
			if asked > 0 {
				t.Fatalf("of %v asked, and there is nobody to ask", b.model)
			}
			continue
		}
		met++
		for n := range len(all) - retry + 1 {
			times := 0
			for _, m := range all[n : n+retry] {
				if len(m.asks) > 0 {
					times++
				}
			}
			if times != 1 {
				t.Fatalf("of %v in %d ticks from tick %d on it asks %d times", b.model, retry, n+1, times)
			}
		}
	}
	if met < 1000 {
		t.Errorf("only %d runs with somebody to ask", met)
	}
}

// P19.4: it asks addresses that are Seeds, all of them but its own one, and none twice.
func TestAsked(t *testing.T) {
	for d := range draw(2000) {
		b := d.node(t)
		for _, m := range run(b, &d, 3*b.model.retry, pick(&d, 0, 4)) {
			for i, addr := range m.asks {
				if addr < 1 || addr > mostAddr || addr == b.model.me.Addr || !slices.Contains(b.model.seeds, addr) || slices.Contains(m.asks[:i], addr) {
					t.Fatalf("of %v asks %v", b.model, m.asks)
				}
			}
			for _, addr := range b.model.seeds {
				if len(m.asks) > 0 && 1 <= addr && addr <= mostAddr && addr != b.model.me.Addr && !slices.Contains(m.asks, addr) {
					t.Fatalf("of %v asks %v, and not %d", b.model, m.asks, addr)
				}
			}
		}
	}
}

// P19.5: only the first seed stands alone, not before its 2 Retry-th tick, and never when a seed has answered; without an answer in each tick from there on.
func TestAlone(t *testing.T) {
	met := map[bool]int{}
	for d := range draw(2000) {
		b := d.node(t)
		first := len(b.model.seeds) > 0 && b.model.seeds[0] == b.model.me.Addr
		for n, m := range run(b, &d, 4*b.model.retry, pick(&d, 0, 0, 9, 30)) {
			if m.alone != (first && n+1 >= 2*b.model.retry && !m.answered) {
				t.Fatalf("of %v, answered: %t, alone in tick %d: %t", b.model, m.answered, n+1, m.alone)
			}
			met[m.alone]++
		}
	}
	if met[true] < 1000 || met[false] < 1000 {
		t.Errorf("%d times alone, %d times not", met[true], met[false])
	}
}

// ever reports whether a node at an address ever stands alone in so many ticks.
func ever(t *testing.T, addr, inc, retry, n int, seeds []int) bool {
	t.Helper()
	e, _ := entry.New(config(retry, seeds...), id(addr, inc))
	is := false
	for range n {
		_, alone := e.Tick()
		is = is || alone
	}
	return is
}

// P19.6: of nodes at all addresses, with the same Seeds, unanswered, the one at the first one of them stands alone, and no other one; none, if that is no address, or there are no Seeds.
func TestOne(t *testing.T) {
	all := append(lists([]int{0, 1, 2, 3, 12, 13}, 4), orders([]int{1, 4, 7, 12})...)
	for _, x := range noAddrs() {
		all = append(all, []int{x, 1}, []int{1, x}, []int{x})
	}
	for _, seeds := range all {
		for addr := 1; addr <= mostAddr; addr++ {
			if got := ever(t, addr, addr, 2, 7, seeds); got != (len(seeds) > 0 && seeds[0] == addr) {
				t.Fatalf("Seeds %v: at %d alone: %t", seeds, addr, got)
			}
		}
	}
}

// P19.6: also if they tick at other times, are answered or not, and have another Retry and incarnation each.
func TestOneOfDrawn(t *testing.T) {
	met := 0
	for d := range draw(1000) {
		seeds := d.seeds()
		nodes := make([]*both, mostAddr)
		for i := range nodes {
			nodes[i] = fresh(t, id(1+i, 1+d.below(mostInc)), 1+d.below(4), seeds...)
		}
		alone := map[int]bool{}
		for range 150 {
			b := nodes[d.below(len(nodes))]
			if d.below(60) == 0 {
				b.answered(t)
			} else if _, is := b.tick(t); is {
				alone[b.model.me.Addr] = true
			}
		}
		if len(alone) > 1 {
			t.Fatalf("Seeds %v: alone: %v", seeds, alone)
		}
		met += len(alone)
	}
	if met < 200 {
		t.Errorf("only %d times one stood alone", met)
	}
}
