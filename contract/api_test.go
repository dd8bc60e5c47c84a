package contract

import (
	"errors"
	"testing"

	"covey/api"
)

func TestLimits(t *testing.T) {
	for _, c := range []struct {
		name      string
		got, want int
	}{
		{"MaxAddr", api.MaxAddr, 12},
		{"MaxInc", api.MaxInc, 1048576},
		{"MaxNumber", api.MaxNumber, 1099511627776},
		{"MaxList", api.MaxList, 64},
		{"MaxLives", api.MaxLives, 48},
		{"MaxFrame", api.MaxFrame, 8192},
		{"MaxTime", api.MaxTime, 4096},
		{"MaxOps", api.MaxOps, 65536},
	} {
		if c.got != c.want {
			t.Errorf("%s: %d, not %d", c.name, c.got, c.want)
		}
	}
}

func TestErrors(t *testing.T) {
	for _, c := range []struct {
		name string
		got  api.Errno
		want int
	}{
		{"OK", api.OK, 0},
		{"ErrArg", api.ErrArg, 1},
		{"ErrNil", api.ErrNil, 2},
		{"ErrForm", api.ErrForm, 4},
		{"ErrNone", api.ErrNone, 5},
		{"ErrTwice", api.ErrTwice, 6},
		{"ErrState", api.ErrState, 7},
		{"ErrShort", api.ErrShort, 8},
		{"ErrSum", api.ErrSum, 9},
		{"ErrTooLarge", api.ErrTooLarge, 40},
		{"ErrTerminated", api.ErrTerminated, 41},
		{"ErrOld", api.ErrOld, 42},
	} {
		if int(c.got) != c.want {
			t.Errorf("%s: %d, not %d", c.name, int(c.got), c.want)
		}
		var wrapped error = c.got
		var back api.Errno
		if !errors.As(wrapped, &back) || back != c.got {
			t.Errorf("%s is no error of the language", c.name)
		}
	}
}
