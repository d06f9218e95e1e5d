package record_test

import (
	"math"
	"slices"
	"testing"

	"rushlight/api"
	"rushlight/record"
)

// list makes records of numbers and values in turn.
func list(n ...uint32) []api.Record {
	var l []api.Record
	for k := 0; k < len(n); k += 2 {
		l = append(l, api.Record{Seq: n[k], Val: n[k+1]})
	}
	return l
}

// cases holds lists, which of their records are no replays, and whether they are consistent.
func cases() []struct {
	name    string
	l       []api.Record
	first   []api.Record
	orderly bool
} {
	const a, b, c, d = 10, 20, 30, 40
	const far = math.MaxUint32
	return []struct {
		name    string
		l       []api.Record
		first   []api.Record
		orderly bool
	}{
		{"nil", nil, nil, true},
		{"empty", []api.Record{}, nil, true},
		{"one", list(0, a), list(0, a), true},
		{"not from 0", list(1, a), list(1, a), false},
		{"far from 0", list(far, a), list(far, a), false},
		{"all in order", list(0, a, 1, b, 2, c), list(0, a, 1, b, 2, c), true},
		{"the chapter's example", list(0, a, 1, b, 0, a, 1, b, 2, c), list(0, a, 1, b, 2, c), true},
		{"a gap", list(0, a, 2, b), list(0, a, 2, b), false},
		{"another value", list(0, a, 0, b), list(0, a), false},
		{"another value, and then the first again", list(0, a, 0, b, 0, a), list(0, a), false},
		{"another value later", list(0, a, 1, b, 2, c, 1, d), list(0, a, 1, b, 2, c), false},
		{"the second replay has the first replay's value only", list(0, a, 1, b, 0, b, 0, b), list(0, a, 1, b), false},
		{"equal values", list(0, a, 1, a, 0, a, 1, a, 2, a), list(0, a, 1, a, 2, a), true},
		{"values 0", list(0, 0, 1, 0, 0, 0), list(0, 0, 1, 0), true},
		{"the first value 0, the replay not", list(0, 0, 0, a), list(0, 0), false},
		{"the replay 0, the first value not", list(0, a, 0, 0), list(0, a), false},
		{"replays in no order", list(0, a, 1, b, 2, c, 1, b, 2, c, 0, a, 3, d), list(0, a, 1, b, 2, c, 3, d), true},
		{"a replay in between", list(0, a, 1, b, 0, a, 2, c), list(0, a, 1, b, 2, c), true},
		{"a gap after a replay", list(0, a, 1, b, 0, a, 3, c), list(0, a, 1, b, 3, c), false},
		{"a gap that is filled later", list(0, a, 2, c, 1, b), list(0, a, 2, c, 1, b), false},
		{"a gap to the end of the numbers", list(0, a, far, b), list(0, a, far, b), false},
		{"descending", list(1, b, 0, a), list(1, b, 0, a), false},
	}
}

func values(l []api.Record) []uint32 {
	var v []uint32
	for _, r := range l {
		v = append(v, r.Val)
	}
	return v
}

// Promise 4.1.
func TestFirstReplaysOrderly(t *testing.T) {
	for _, x := range cases() {
		if got := record.First(x.l); !slices.Equal(got, x.first) {
			t.Errorf("%s: First: %v, not %v", x.name, got, x.first)
		}
		if got, want := record.Replays(x.l), len(x.l)-len(x.first); got != want {
			t.Errorf("%s: Replays: %d, not %d", x.name, got, want)
		}
		if got := record.Orderly(x.l); got != x.orderly {
			t.Errorf("%s: Orderly: %v", x.name, got)
		}
	}
}

// Promise 4.2: all values, fewer, more and others; a list that is not consistent is neither.
func TestValuesBeginsWhole(t *testing.T) {
	for _, x := range cases() {
		v := values(x.first)
		if got := record.Values(x.l); !slices.Equal(got, v) {
			t.Errorf("%s: Values: %v, not %v", x.name, got, v)
		}
		compare := func(out []uint32, begins, whole bool) {
			t.Helper()
			begins, whole = begins && x.orderly, whole && x.orderly
			if got := record.Begins(x.l, out); got != begins {
				t.Errorf("%s: Begins of %v: %v", x.name, out, got)
			}
			if got := record.Whole(x.l, out); got != whole {
				t.Errorf("%s: Whole of %v: %v", x.name, out, got)
			}
		}
		compare(v, true, true)
		compare(append(slices.Clone(v), 7), true, false)
		compare(append(slices.Clone(v), 0, 0, 0), true, false)
		compare(append([]uint32{7}, v...), len(v) == 0, false)
		for k := range v {
			compare(v[:k], false, false)
			other := slices.Clone(v)
			other[k]++
			compare(other, false, false)
		}
		compare(nil, len(v) == 0, len(v) == 0)
	}
}

// Promise 4.3: First of a consistent list is numbered from 0 on.
func TestFirstIsNumbered(t *testing.T) {
	for _, x := range cases() {
		for k, r := range record.First(x.l) {
			if x.orderly && r.Seq != uint32(k) {
				t.Errorf("%s: number %d at %d", x.name, r.Seq, k)
			}
		}
	}
}

// Promise 4.3: a replay more, wherever it stands after its first record, changes Replays alone.
func TestAnotherReplay(t *testing.T) {
	for _, x := range cases() {
		if !x.orderly {
			continue
		}
		v := record.Values(x.l)
		for k, r := range x.l {
			for at := k + 1; at <= len(x.l); at++ {
				l := slices.Insert(slices.Clone(x.l), at, r)
				if !record.Orderly(l) || !slices.Equal(record.First(l), x.first) || !slices.Equal(record.Values(l), v) || !record.Whole(l, v) || !record.Begins(l, v) {
					t.Errorf("%s: record %d again at %d", x.name, k, at)
				}
				if got, want := record.Replays(l), record.Replays(x.l)+1; got != want {
					t.Errorf("%s: record %d again at %d: %d replays, not %d", x.name, k, at, got, want)
				}
			}
		}
	}
}

// Rule R3: nothing is modified, and no result shares memory with an argument.
func TestNothingIsShared(t *testing.T) {
	l := list(0, 10, 1, 20, 0, 10, 2, 30)
	out := []uint32{10, 20, 30}
	before, outBefore := slices.Clone(l), slices.Clone(out)
	first, v := record.First(l), record.Values(l)
	record.Replays(l)
	record.Begins(l, out)
	record.Whole(l, out)
	if !slices.Equal(l, before) || !slices.Equal(out, outBefore) {
		t.Fatal("an argument is modified")
	}
	first[0], v[0] = api.Record{Seq: 9, Val: 9}, 9
	if !slices.Equal(l, before) || !slices.Equal(record.First(l), list(0, 10, 1, 20, 2, 30)) {
		t.Error("a result shares memory with the list")
	}
}

// A long list with many replays, held against the definitions taken word by word.
func TestAgainstDefinitions(t *testing.T) {
	x := uint32(1)
	next := func(n uint32) uint32 {
		x = x*1664525 + 1013904223
		return x >> 8 % n
	}
	orderly := 0
	for range 3000 {
		var l []api.Record
		for top := uint32(0); len(l) < 9; {
			r := api.Record{Seq: next(top + 1), Val: 5}
			if r.Seq == top {
				top++
			}
			if next(12) == 0 {
				r.Seq += next(3)
			}
			if next(12) == 0 {
				r.Val++
			}
			l = append(l, r)
		}
		first, ok := byDefinition(l)
		if ok {
			orderly++
		}
		if got := record.First(l); !slices.Equal(got, first) {
			t.Fatalf("First(%v): %v, not %v", l, got, first)
		}
		if got := record.Orderly(l); got != ok {
			t.Fatalf("Orderly(%v): %v", l, got)
		}
	}
	if orderly < 300 || orderly > 2700 {
		t.Errorf("%d of 3000 lists are consistent: that tells little", orderly)
	}
}

// byDefinition compares each record with all earlier ones.
func byDefinition(l []api.Record) (first []api.Record, orderly bool) {
	orderly = true
	for k, r := range l {
		greatest, replay := -1, false
		for _, e := range l[:k] {
			greatest = max(greatest, int(e.Seq))
			if e.Seq == r.Seq && !replay {
				replay = true
				orderly = orderly && e.Val == r.Val
			}
		}
		orderly = orderly && int(r.Seq) <= greatest+1
		if !replay {
			first = append(first, r)
		}
	}
	return first, orderly
}
