package drawn_test

import (
	"testing"

	"rushlight/api"
	"rushlight/check"
	"rushlight/drawn"
	"rushlight/tree"
)

// All programs are such as check.Check accepts, and the same whenever they are made.
func TestPrograms(t *testing.T) {
	seen := map[string]struct{}{}
	for n := range 300 {
		for _, make := range []func(n int) string{drawn.Wild, drawn.Tame} {
			s := make(n)
			p, at, e := tree.Read(s)
			if e == api.OK {
				_, at, e = check.Check(p)
			}
			if e != api.OK || make(n) != s {
				t.Fatalf("%s: %v at %v", s, e, at)
			}
			seen[s] = struct{}{}
		}
	}
	if len(seen) < 590 {
		t.Errorf("%d different programs", len(seen))
	}
}

// Roll keeps to its range and reaches all of it.
func TestRoll(t *testing.T) {
	d, seen := drawn.Dice(1), map[int]int{}
	for range 1000 {
		seen[d.Roll(7)]++
	}
	for n := range 7 {
		if seen[n] < 50 {
			t.Errorf("%d: %d times", n, seen[n])
		}
	}
	if len(seen) != 7 || d.Roll(1) != 0 || d.Roll(0) != 0 || d.Roll(-5) != 0 {
		t.Errorf("beyond the range: %v", seen)
	}
}
