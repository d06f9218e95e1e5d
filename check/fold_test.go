package check_test

import (
	"math/big"
	"strconv"
	"strings"
	"testing"

	"rushlight/api"
	"rushlight/check"
)

// words is numbers at which arithmetic has its edges.
func words() []uint32 {
	return []uint32{0, 1, 2, 3, 7, 31, 32, 33, 255, 256, 65535, 65536, 1<<31 - 1, 1 << 31, 1<<31 + 1, 1<<32 - 8, 1<<32 - 7, 1<<32 - 2, 1<<32 - 1, 0x12345678, 0xdeadbeef}
}

// signed is a word as a signed number of any size.
func signed(a uint32) *big.Int { return big.NewInt(int64(int32(a))) }

// model is Apply by way of numbers of any size.
func model(fn int, a, b uint32) (uint32, api.Errno) {
	x, y, z := signed(a), signed(b), new(big.Int)
	truth := func(holds bool) *big.Int {
		if holds {
			return big.NewInt(1)
		}
		return new(big.Int)
	}
	switch fn {
	case api.FnAdd:
		z.Add(x, y)
	case api.FnSub:
		z.Sub(x, y)
	case api.FnMul:
		z.Mul(x, y)
	case api.FnDiv, api.FnRem:
		if b == 0 {
			return 0, api.ErrZero
		}
		quotient, rest := new(big.Int).QuoRem(x, y, new(big.Int))
		if z = quotient; fn == api.FnRem {
			z = rest
		}
	case api.FnAnd:
		z.And(x, y)
	case api.FnOr:
		z.Or(x, y)
	case api.FnXor:
		z.Xor(x, y)
	case api.FnShl:
		z.Lsh(x, uint(b%32))
	case api.FnShr:
		z.Rsh(x, uint(b%32))
	case api.FnEq, api.FnNe:
		z = truth((x.Cmp(y) == 0) == (fn == api.FnEq))
	case api.FnLt, api.FnGe:
		z = truth((x.Cmp(y) < 0) == (fn == api.FnLt))
	case api.FnGt, api.FnLe:
		z = truth((x.Cmp(y) > 0) == (fn == api.FnGt))
	case api.FnNeg:
		z.Neg(x)
	case api.FnNot:
		z.Not(x)
	case api.FnZero:
		z = truth(x.Sign() == 0)
	default:
		return 0, api.ErrArg
	}
	return uint32(z.And(z, big.NewInt(1<<32-1)).Uint64()), api.OK
}

// Promise 10.2: all functions, and numbers that are none.
func TestApply(t *testing.T) {
	for fn := -3; fn < 30; fn++ {
		for _, a := range words() {
			for _, b := range words() {
				got, e := check.Apply(fn, a, b)
				if want, wantE := model(fn, a, b); got != want || e != wantE {
					t.Fatalf("Apply(%d, %#x, %#x): %#x, %v, not %#x, %v", fn, a, b, got, e, want, wantE)
				}
			}
		}
	}
	for _, fn := range []int{1 << 40, -1 << 40} {
		if n, e := check.Apply(fn, 1, 2); n != 0 || e != api.ErrArg {
			t.Errorf("Apply(%d): %d, %v", fn, n, e)
		}
	}
	for _, x := range []struct {
		fn         int
		a, b, want uint32
	}{
		{api.FnDiv, 1<<32 - 7, 2, 1<<32 - 3}, {api.FnRem, 1<<32 - 7, 2, 1<<32 - 1}, {api.FnDiv, 1 << 31, 1<<32 - 1, 1 << 31}, {api.FnRem, 1 << 31, 1<<32 - 1, 0},
		{api.FnShr, 1<<32 - 7, 1, 1<<32 - 4}, {api.FnShl, 1, 33, 2}, {api.FnShr, 1 << 31, 63, 1<<32 - 1}, {api.FnLt, 1<<32 - 1, 0, 1}, {api.FnZero, 0, 5, 1}, {api.FnNeg, 1, 9, 1<<32 - 1}, {api.FnNot, 1, 9, 1<<32 - 2},
	} {
		if got, e := check.Apply(x.fn, x.a, x.b); got != x.want || e != api.OK {
			t.Errorf("Apply(%d, %#x, %#x): %#x, %v", x.fn, x.a, x.b, got, e)
		}
	}
}

// con is a number as a term.
func con(n uint32) api.Term { return api.Term{Kind: api.TmConst, Num: n} }

// node is a term of a kind and a function.
func node(kind, fn int, kids ...api.Term) api.Term {
	return api.Term{Kind: kind, Fn: fn, Kids: kids}
}

// Promise 10.2: values of terms.
func TestFold(t *testing.T) {
	broken, none := node(api.TmBinary, api.FnDiv, con(1), con(0)), node(api.TmUnary, 99, con(1))
	load := node(api.TmLoad, 0, con(1))
	for k, x := range []struct {
		t    api.Term
		want uint32
		e    api.Errno
	}{
		{con(7), 7, api.OK},
		{api.Term{Kind: api.TmConst, Ptr: true}, 0, api.OK},
		{node(api.TmUnary, api.FnNeg, con(7)), 1<<32 - 7, api.OK},
		{node(api.TmUnary, api.FnZero, con(7)), 0, api.OK},
		{node(api.TmUnary, api.FnAdd, con(7)), 7, api.OK}, // the other number is 0
		{node(api.TmUnary, api.FnMul, con(7)), 0, api.OK},
		{node(api.TmUnary, api.FnDiv, con(7)), 0, api.ErrZero},
		{none, 0, api.ErrArg},
		{node(api.TmUnary, 0, con(7)), 0, api.ErrArg},
		{node(api.TmBinary, api.FnSub, con(7), con(9)), 1<<32 - 2, api.OK},
		{node(api.TmBinary, api.FnNot, con(7), con(9)), 1<<32 - 8, api.OK},
		{node(api.TmBinary, -1, con(7), con(9)), 0, api.ErrArg},
		{broken, 0, api.ErrZero},
		{node(api.TmBinary, api.FnAdd, broken, none), 0, api.ErrZero},
		{node(api.TmBinary, api.FnAdd, con(1), none), 0, api.ErrArg},
		{node(api.TmBinary, api.FnAdd, node(api.TmBinary, api.FnMul, con(2), con(3)), con(4)), 10, api.OK},
		{node(api.TmCut, 0, con(0x1ff)), 255, api.OK},
		{node(api.TmCut, 0, broken), 0, api.ErrZero},
		{node(api.TmAnd, 0, con(2), con(4)), 1, api.OK},
		{node(api.TmAnd, 0, con(2), con(0)), 0, api.OK},
		{node(api.TmAnd, 0, con(0), broken), 0, api.OK},
		{node(api.TmAnd, 0, con(1), broken), 0, api.ErrZero},
		{node(api.TmAnd, 0, none, con(0)), 0, api.ErrArg},
		{node(api.TmOr, 0, con(0), con(4)), 1, api.OK},
		{node(api.TmOr, 0, con(0), con(0)), 0, api.OK},
		{node(api.TmOr, 0, con(2), none), 1, api.OK},
		{node(api.TmOr, 0, con(0), none), 0, api.ErrArg},
		{node(api.TmCond, 0, con(5), con(6), broken), 6, api.OK},
		{node(api.TmCond, 0, con(0), none, con(7)), 7, api.OK},
		{node(api.TmCond, 0, con(0), con(6), broken), 0, api.ErrZero},
		{node(api.TmCond, 0, con(1), none, con(7)), 0, api.ErrArg},
		{node(api.TmCond, 0, broken, con(6), con(7)), 0, api.ErrZero},
		// the form is asked of what is not evaluated too
		{node(api.TmAnd, 0, con(0), load), 0, api.ErrRule},
		{node(api.TmOr, 0, con(1), node(api.TmUnary, api.FnNeg)), 0, api.ErrRule},
		{node(api.TmCond, 0, con(1), con(2), load), 0, api.ErrRule},
		{node(api.TmCond, 0, con(0), node(api.TmCut, 0, node(api.TmIn, 0)), con(2)), 0, api.ErrRule},
		{node(api.TmBinary, api.FnAdd, broken, load), 0, api.ErrRule},
		{node(api.TmBinary, api.FnAdd, none, node(api.TmConst, 0, con(1))), 0, api.ErrRule},
		{api.Term{}, 0, api.ErrRule},
	} {
		if got, e := check.Fold(x.t); got != x.want || e != x.e {
			t.Errorf("term %d: %d, %v, not %d, %v", k, got, e, x.want, x.e)
		}
	}
}

// Promise 10.2: all kinds with all numbers of operands.
func TestForms(t *testing.T) {
	right := map[int]int{api.TmConst: 0, api.TmUnary: 1, api.TmCut: 1, api.TmBinary: 2, api.TmAnd: 2, api.TmOr: 2, api.TmCond: 3}
	for kind := -2; kind < 25; kind++ {
		for n := range 6 {
			x := node(kind, api.FnNeg)
			for range n {
				x.Kids = append(x.Kids, con(1))
			}
			want := api.ErrRule
			if count, permitted := right[kind]; permitted && count == n {
				want = api.OK
			}
			if _, e := check.Fold(x); e != want {
				t.Errorf("kind %d with %d operands: %v, not %v", kind, n, e, want)
			}
			if _, e := check.Fold(node(api.TmUnary, api.FnNeg, node(api.TmCut, 0, x))); e != want {
				t.Errorf("kind %d with %d operands, within others: %v, not %v", kind, n, e, want)
			}
		}
	}
}

// Promise 10.2: terms nested as deep as what is promised goes.
func TestDeepFold(t *testing.T) {
	x, y := con(1), con(1)
	for range 60000 {
		x = node(api.TmBinary, api.FnAdd, x, con(1))
		y = node(api.TmAnd, 0, con(1), y)
	}
	if n, e := check.Fold(x); n != 60001 || e != api.OK {
		t.Errorf("%d, %v", n, e)
	}
	if n, e := check.Fold(y); n != 1 || e != api.OK {
		t.Errorf("%d, %v", n, e)
	}
}

// dice is a sequence of numbers that is the same each time.
type dice uint64

// roll is the next number below n.
func (d *dice) roll(n int) int {
	*d = *d*6364136223846793005 + 1442695040888963407
	return int(uint64(*d)>>33) % n
}

// draw is a constant expression as a text, with its value.
func (d *dice) draw(deep int) (s string, n uint32, e api.Errno) {
	if deep == 0 || d.roll(6) == 0 {
		n = words()[d.roll(len(words()))]
		return strconv.FormatUint(uint64(n), 10), n, api.OK
	}
	a, x, e := d.draw(deep - 1)
	b, y, second := d.draw(deep - 1)
	truth := func(holds bool) uint32 {
		if holds {
			return 1
		}
		return 0
	}
	switch k := d.roll(22); {
	case k < 16:
		if e == api.OK {
			e = second
		}
		if e == api.OK {
			n, e = model(k+1, x, y)
		}
		return "(" + a + ") " + strings.Fields("+ - * / % & | ^ << >> == != < > <= >=")[k] + " (" + b + ")", n, e
	case k < 19:
		if e == api.OK {
			n, e = model(k+1, x, 0)
		}
		return strings.Fields("- ~ !")[k-16] + " (" + a + ")", n, e
	case k == 19:
		if e == api.OK && x != 0 {
			n, e = truth(y != 0), second
		}
		return "(" + a + ") && (" + b + ")", n, e
	case k == 20:
		if e == api.OK && x != 0 {
			n = 1
		} else if e == api.OK {
			n, e = truth(y != 0), second
		}
		return "(" + a + ") || (" + b + ")", n, e
	}
	c, z, third := d.draw(deep - 1)
	if e == api.OK && x != 0 {
		n, e = y, second
	} else if e == api.OK {
		n, e = z, third
	}
	return "(" + a + ") ? (" + b + ") : (" + c + ")", n, e
}

// Promises 10.1 and 10.2: constant expressions as initializers, held against their values.
func TestConstants(t *testing.T) {
	d, count := dice(1), map[api.Errno]int{}
	for range 5000 {
		s, n, want := d.draw(5)
		u, _, e := check.Check(parse(t, "int a = "+s+"; char b = "+s+"; int main() { }"))
		if count[want]++; e != want {
			t.Fatalf("%s: %v, not %v", s, e, want)
		}
		if e != api.OK {
			continue
		}
		a, b := u.Data[0], u.Data[1]
		if got := uint32(a[0]) | uint32(a[1])<<8 | uint32(a[2])<<16 | uint32(a[3])<<24; got != n || b[0] != byte(n) {
			t.Fatalf("%s: %#x and %#x, not %#x", s, got, b[0], n)
		}
	}
	if count[api.OK] < 1000 || count[api.ErrZero] < 500 || len(count) != 2 {
		t.Errorf("%v", count)
	}
}
