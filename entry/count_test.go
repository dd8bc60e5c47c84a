package entry

import (
	"slices"
	"testing"

	"covey/api"
)

// So many ticks are not made by calls: the count is set to what it would be.
func TestCountStays(t *testing.T) {
	const most = 1 << 40
	for _, retry := range []int{1, 2, 3, 5, 7, 11, 4096} {
		for _, ahead := range []int{0, 1, 2, 3, retry} {
			e, _ := New(api.Config{Seeds: []int{4, 2}, Retry: retry}, api.ID{Addr: 4, Inc: 1})
			e.ticks = most - ahead
			for n := range 3*retry + 3 {
				if n == 2*retry {
					e.Answered()
				}
				asks, alone := e.Tick()
				if want := min(most-ahead+n+1, most); e.Ticks() != want || e.Copy().Ticks() != want {
					t.Fatalf("%d ticks after %d, Ticks: %d", n+1, most-ahead, e.Ticks())
				}
				// P19.3 and P19.5 hold there, too.
				if asked := slices.Equal(asks, []int{2}); asked != (n%retry == 0) || !asked && len(asks) > 0 || alone != (n < 2*retry) {
					t.Fatalf("Retry %d, %d ticks after %d: asks %v, alone: %t", retry, n+1, most-ahead, asks, alone)
				}
			}
		}
	}
}
