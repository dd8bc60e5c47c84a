package rows

import (
	"slices"
	"testing"

	"covey/api"
)

// Ways: the iterator over two lists stops where the loop does, may be gone through again, and leaves both lists.
func TestPairs(t *testing.T) {
	row := func(addr, version int) api.Row { return api.Row{Of: api.ID{Addr: addr, Inc: 1}, Version: version} }
	a, b := []api.Row{row(3, 1), row(1, 2), row(3, 3)}, []api.Row{row(4, 4), row(3, 5), row(2, 6)}
	all := [][2]int{{2, 0}, {0, 6}, {1, 5}, {0, 4}}
	both := pairs(a, b)
	for most := 1; most <= 5; most++ {
		var got [][2]int
		for x, y := range both {
			got = append(got, [2]int{versionOf(x), versionOf(y)})
			if len(got) == most {
				break
			}
		}
		if want := all[:min(most, len(all))]; !slices.Equal(got, want) {
			t.Errorf("the first %d pairs: versions %v, not %v", most, got, want)
		}
	}
	if a[0].Version != 1 || a[1].Version != 2 || a[2].Version != 3 || b[0].Version != 4 || b[1].Version != 5 || b[2].Version != 6 {
		t.Errorf("the lists became %v, %v", a, b)
	}
}

func versionOf(r *api.Row) int {
	if r == nil {
		return 0
	}
	return r.Version
}
