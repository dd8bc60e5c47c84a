package outbox_test

import (
	"slices"
	"testing"

	"covey/api"
)

// P13.1, P13.5: of max 1, each Kind behind each Kind: what waits is lost if it is replaceable, otherwise what is new.
func TestMaxOne(t *testing.T) {
	for k := range 256 {
		for l := range 256 {
			b := filled(t, 1, uint8(k))
			out, lost := b.put(t, light(uint8(l), 2))
			if k == status || k == gossip {
				if !lost || out.N != 1 {
					t.Fatalf("Kind %d behind Kind %d: %v, %t", l, k, out, lost)
				}
				b.wants(t, 2)
			} else {
				if !lost || out.N != 2 {
					t.Fatalf("Kind %d behind Kind %d: %v, %t", l, k, out, lost)
				}
				b.wants(t, 1)
			}
		}
	}
}

// P13.1, P13.5: of a full box in which a single frame is replaceable, wherever it is, that one is lost, whatever the new one is.
func TestOneReplaceable(t *testing.T) {
	for max := 1; max <= 7; max++ {
		for place := range max {
			for _, kind := range []uint8{status, gossip} {
				for k := range 256 {
					kinds := slices.Repeat([]uint8{beat, 1, reply, 7}, max)[:max]
					kinds[place] = kind
					b := filled(t, max, kinds...)
					out, lost := b.put(t, light(uint8(k), max+1))
					if !lost || out.N != place+1 || out.Kind != kind {
						t.Fatalf("of %v %v, %t is lost", kinds, out, lost)
					}
					want := slices.Delete([]int{1, 2, 3, 4, 5, 6, 7, 8}[:max+1], place, place+1)
					b.wants(t, want...)
				}
			}
		}
	}
}

// P13.1, P13.5: of a full box without a replaceable frame the new one is lost, replaceable or not; it stays so until there is room.
func TestNoneReplaceable(t *testing.T) {
	for max := 1; max <= 5; max++ {
		for k := range 256 {
			b := filled(t, max, slices.Repeat([]uint8{beat, 0, 2, 255, 8}, max)[:max]...)
			for n := 100; n < 103; n++ {
				f := full(uint8(k), n)
				if out, lost := b.put(t, f); !lost || !equal(out, f) {
					t.Fatalf("of max %d Kind %d: %v, %t", max, k, out, lost)
				}
			}
			b.wants(t, []int{1, 2, 3, 4, 5}[:max]...)
			b.take(t)
			if out, lost := b.put(t, light(uint8(k), 200)); lost || !equal(out, api.Frame{}) {
				t.Fatalf("with room again Kind %d: %v, %t", k, out, lost)
			}
			b.wants(t, append([]int{2, 3, 4, 5}[:max-1], 200)...)
		}
	}
}

// P13.1: of several replaceable frames the first one is lost, of whichever of both Kinds it is; then the next one, until there is none.
func TestSeveralReplaceable(t *testing.T) {
	kinds := []uint8{beat, status, gossip, 7}
	for max := 1; max <= 5; max++ {
		all := 1
		for range max {
			all *= len(kinds)
		}
		for choice := range all {
			b := fresh(t, max)
			for n, rest := 1, choice; n <= max; n, rest = n+1, rest/len(kinds) {
				b.put(t, light(kinds[rest%len(kinds)], n))
			}
			for n := range max + 1 {
				b.put(t, light(kinds[(choice+n)%2*3], max+1+n))
				b.look(t)
			}
			b.drain(t)
		}
	}
}

// P13.1, P13.6: a replaceable frame is lost to a further replaceable one, too, though that goes behind the others.
func TestReplaceableForReplaceable(t *testing.T) {
	b := filled(t, 3, gossip, beat, status)
	b.put(t, light(gossip, 4))
	b.wants(t, 2, 3, 4)
	b.put(t, light(status, 5))
	b.wants(t, 2, 4, 5)
	b.put(t, light(beat, 6))
	b.wants(t, 2, 5, 6)
	b.put(t, light(reply, 7))
	b.wants(t, 2, 6, 7)
	b.put(t, light(status, 8))
	b.wants(t, 2, 6, 7)
	b.drain(t)
}

// P13.1, P13.4: the same of as many as may be: with the first one, one in the middle, or the last one replaceable, with none, and with all.
func TestMaxTime(t *testing.T) {
	for _, places := range [][]int{{0}, {1}, {2048}, {mostTime - 2}, {mostTime - 1}, {7, 2048, mostTime - 1}, {}} {
		b := fresh(t, mostTime)
		for i := range mostTime {
			kind := uint8(beat)
			if slices.Contains(places, i) {
				kind = gossip
			}
			b.box.Put(light(kind, i))
			b.model.all = append(b.model.all, entry{frame: light(kind, i)})
		}
		for n := range len(places) + 2 {
			b.put(t, light(status*uint8(n%2)+beat*uint8(1-n%2), 5000+n))
			b.look(t)
		}
	}
	b := fresh(t, mostTime)
	for i := range 3 * mostTime {
		kind := pick(new(draw(i)), uint8(status), gossip)
		if out, lost, _ := b.box.Put(light(kind, i)); lost != (i >= mostTime) || lost && out.N != i-mostTime {
			t.Fatalf("number %d: %v, %t", i, out, lost)
		}
		if b.box.Len() != min(i+1, mostTime) {
			t.Fatalf("Len, after %d: %d", i+1, b.box.Len())
		}
	}
	for i := 2 * mostTime; i < 3*mostTime; i++ {
		if f, is := b.box.Take(); !is || f.N != i {
			t.Fatalf("Take: %v, %t, not number %d", f, is, i)
		}
	}
	b.look(t)
}
