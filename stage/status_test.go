package stage_test

import (
	"slices"
	"strings"
	"testing"

	"covey/api"
	"covey/stage"
)

// P4.1: a status is from Joining to Removed; no other number is one.
func TestMay(t *testing.T) {
	for _, s := range everyNumber() {
		if got := stage.May(s); got != (s >= 1 && s <= 7) {
			t.Errorf("May(%d): %t", s, got)
		}
	}
}

// P4.1: each status has its name; no other number has one.
func TestName(t *testing.T) {
	for _, c := range []struct {
		s    uint8
		want string
	}{
		{0, ""},
		{api.Joining, "joining"},
		{api.Weak, "weak"},
		{api.Up, "up"},
		{api.Leaving, "leaving"},
		{api.Exiting, "exiting"},
		{api.Down, "down"},
		{api.Removed, "removed"},
	} {
		if got := stage.Name(c.s); got != c.want {
			t.Errorf("Name(%d): %q, not %q", c.s, got, c.want)
		}
	}
	for _, s := range everyNumber()[8:] {
		if got := stage.Name(s); got != "" {
			t.Errorf("Name(%d): %q", s, got)
		}
	}
}

// P4.1: Parse takes each name back.
func TestParse(t *testing.T) {
	for i, name := range statusNames {
		if s, e := stage.Parse(name); int(s) != i+1 || e != api.OK {
			t.Errorf("Parse(%q): %d, %v", name, s, e)
		}
	}
	for _, s := range everyNumber() {
		back, e := stage.Parse(stage.Name(s))
		if stage.May(s) && (back != s || e != api.OK) || !stage.May(s) && (back != 0 || e != api.ErrNone) {
			t.Errorf("Parse of the name of %d: %d, %v", s, back, e)
		}
	}
}

// notNames are texts that are no status's name: all that is near to one, and others.
func notNames() []string {
	l := []string{"", " ", "none", "0", "1", "3", "7", "8", "alive", "voter", "joined", "leave", "exit", "remove", "gone", "\x00", "\xff", "ｕｐ", "up,down", "joiningweak", strings.Repeat("up", 1000)}
	for _, name := range statusNames {
		l = append(l, strings.ToUpper(name), strings.ToUpper(name[:1])+name[1:], " "+name, name+" ", name+"\n", "\x00"+name, name+"\x00", name+name)
		for i := range len(name) {
			l = append(l, name[:i], name[i+1:], name[:i]+name[i+1:], name[:i]+"~"+name[i+1:], name[:i]+"\xff"+name[i+1:])
		}
	}
	return l
}

// Errors: what is not the name of a status does not exist, and tells no status.
func TestParseOfOtherTexts(t *testing.T) {
	for _, other := range notNames() {
		if s, e := stage.Parse(other); s != 0 || e != api.ErrNone {
			t.Errorf("Parse(%q): %d, %v", other, s, e)
		}
	}
}

// P4.1: Voter is Up and Leaving alone, Alive is Joining to Exiting.
func TestVoterAndAlive(t *testing.T) {
	voters := []uint8{api.Up, api.Leaving}
	alive := []uint8{api.Joining, api.Weak, api.Up, api.Leaving, api.Exiting}
	for _, s := range everyNumber() {
		if got := stage.Voter(s); got != slices.Contains(voters, s) {
			t.Errorf("Voter(%s): %t", text(s), got)
		}
		if got := stage.Alive(s); got != slices.Contains(alive, s) {
			t.Errorf("Alive(%s): %t", text(s), got)
		}
	}
}

// P4.1: Max of any two numbers: the greater one, wherever it stands.
func TestMax(t *testing.T) {
	for _, a := range everyNumber() {
		for _, b := range everyNumber() {
			want := a
			if b > a {
				want = b
			}
			if got := stage.Max(a, b); got != want {
				t.Fatalf("Max(%d, %d): %d", a, b, got)
			}
		}
	}
}

// P4.5: Max is commutative, associative and idempotent.
func TestLawsOfMax(t *testing.T) {
	for _, a := range everyNumber() {
		if stage.Max(a, a) != a {
			t.Fatalf("Max of %d and itself: %d", a, stage.Max(a, a))
		}
		for _, b := range everyNumber() {
			if stage.Max(a, b) != stage.Max(b, a) {
				t.Fatalf("Max(%d, %d): %d, the other way %d", a, b, stage.Max(a, b), stage.Max(b, a))
			}
			for _, c := range nearStatuses {
				if stage.Max(stage.Max(a, b), c) != stage.Max(a, stage.Max(b, c)) {
					t.Fatalf("Max of %d, %d and %d: it depends on which two come first", a, b, c)
				}
			}
		}
	}
}
