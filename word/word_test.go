package word_test

import (
	"math"
	"math/big"
	"testing"

	"rushlight/word"
)

const (
	least  = uint32(1 << 31)
	minus1 = ^uint32(0)
)

// samples holds the ends of all ranges that the chapter names, and words with no pattern.
func samples() []uint32 {
	l := []uint32{
		0, 1, 2, 3, 5, 7, 16, 31, 32, 33, 63, 64, 0x7f, 0x80, 0xff, 0x7ff, 0x800, 0x801, 0xfff, 0x1000, 0x1800,
		0x7fff, 0x8000, 0xffff, 0x10000, least - 1, least, least + 1, least + 0x7ff, least + 0x800,
		0x7ffff7ff, 0x7ffff800, 0xfffff7ff, 0xfffff800, minus1 - 31, minus1 - 6, minus1 - 2, minus1 - 1, minus1,
	}
	for n, x := 0, uint32(12345); n < 40; n++ {
		x = x*1664525 + 1013904223
		l = append(l, x, x>>uint(n%29))
	}
	return l
}

func eachPair(f func(a, b uint32)) {
	l := samples()
	for _, a := range l {
		for _, b := range l {
			f(a, b)
		}
	}
}

func unsigned(a uint32) *big.Int { return new(big.Int).SetUint64(uint64(a)) }

func signed(a uint32) *big.Int {
	n := unsigned(a)
	if a >= least {
		n.Sub(n, big.NewInt(1<<32))
	}
	return n
}

// truncated is the remainder of n modulo 2^32, which big.Int.Mod never makes negative.
func truncated(n *big.Int) uint32 {
	return uint32(new(big.Int).Mod(n, big.NewInt(1<<32)).Uint64())
}

func upper(n *big.Int) uint32 { return truncated(new(big.Int).Rsh(n, 32)) }

type operation struct {
	name string
	got  func(a, b uint32) uint32
	want func(a, b uint32) uint32
}

func compare(t *testing.T, l []operation) {
	t.Helper()
	for _, o := range l {
		bad := 0
		eachPair(func(a, b uint32) {
			if got, want := o.got(a, b), o.want(a, b); got != want && bad < 5 {
				bad++
				t.Errorf("%s(%#x, %#x): %#x, not %#x", o.name, a, b, got, want)
			}
		})
	}
}

// Promise 1.1.
func TestSumsAndProducts(t *testing.T) {
	compare(t, []operation{
		{"Add", word.Add, func(a, b uint32) uint32 { return truncated(new(big.Int).Add(unsigned(a), unsigned(b))) }},
		{"Sub", word.Sub, func(a, b uint32) uint32 { return truncated(new(big.Int).Sub(unsigned(a), unsigned(b))) }},
		{"Mul", word.Mul, func(a, b uint32) uint32 { return truncated(new(big.Int).Mul(unsigned(a), unsigned(b))) }},
		{"High", word.High, func(a, b uint32) uint32 { return upper(new(big.Int).Mul(signed(a), signed(b))) }},
		{"HighU", word.HighU, func(a, b uint32) uint32 { return upper(new(big.Int).Mul(unsigned(a), unsigned(b))) }},
		{"HighSU", word.HighSU, func(a, b uint32) uint32 { return upper(new(big.Int).Mul(signed(a), unsigned(b))) }},
	})
}

// Promise 1.2, for the divisors that have no case of their own.
func TestQuotients(t *testing.T) {
	divide := func(b uint32, f func() *big.Int, zero uint32) uint32 {
		if b == 0 {
			return zero
		}
		return truncated(f())
	}
	compare(t, []operation{
		{"Div", word.Div, func(a, b uint32) uint32 {
			return divide(b, func() *big.Int { return new(big.Int).Quo(signed(a), signed(b)) }, minus1)
		}},
		{"DivU", word.DivU, func(a, b uint32) uint32 {
			return divide(b, func() *big.Int { return new(big.Int).Quo(unsigned(a), unsigned(b)) }, minus1)
		}},
		{"Rem", word.Rem, func(a, b uint32) uint32 {
			return divide(b, func() *big.Int { return new(big.Int).Rem(signed(a), signed(b)) }, a)
		}},
		{"RemU", word.RemU, func(a, b uint32) uint32 {
			return divide(b, func() *big.Int { return new(big.Int).Rem(unsigned(a), unsigned(b)) }, a)
		}},
	})
}

// Promise 1.2: the divisor 0, the quotient that no word holds, and the signs.
func TestQuotientsByHand(t *testing.T) {
	neg := func(n uint32) uint32 { return -n }
	for _, x := range []struct {
		a, b, div, rem, divU, remU uint32
	}{
		{7, 2, 3, 1, 3, 1},
		{neg(7), 2, neg(3), neg(1), 1<<31 - 4, 1},
		{7, neg(2), neg(3), 1, 0, 7},
		{neg(7), neg(2), 3, neg(1), 0, neg(7)},
		{0, 0, minus1, 0, minus1, 0},
		{5, 0, minus1, 5, minus1, 5},
		{neg(5), 0, minus1, neg(5), minus1, neg(5)},
		{least, 0, minus1, least, minus1, least},
		{least, minus1, least, 0, 0, least},
		{least, 1, least, 0, least, 0},
	} {
		if d, r := word.Div(x.a, x.b), word.Rem(x.a, x.b); d != x.div || r != x.rem {
			t.Errorf("Div, Rem(%#x, %#x): %#x, %#x, not %#x, %#x", x.a, x.b, d, r, x.div, x.rem)
		}
		if d, r := word.DivU(x.a, x.b), word.RemU(x.a, x.b); d != x.divU || r != x.remU {
			t.Errorf("DivU, RemU(%#x, %#x): %#x, %#x, not %#x, %#x", x.a, x.b, d, r, x.divU, x.remU)
		}
	}
}

// Promise 1.3. Rsh of a negative big.Int rounds towards minus infinity.
func TestShiftsAndOrder(t *testing.T) {
	fewer := func(a, b *big.Int) uint32 {
		if a.Cmp(b) < 0 {
			return 1
		}
		return 0
	}
	compare(t, []operation{
		{"Left", word.Left, func(a, b uint32) uint32 { return truncated(new(big.Int).Lsh(unsigned(a), uint(b%32))) }},
		{"Right", word.Right, func(a, b uint32) uint32 { return truncated(new(big.Int).Rsh(unsigned(a), uint(b%32))) }},
		{"RightS", word.RightS, func(a, b uint32) uint32 { return truncated(new(big.Int).Rsh(signed(a), uint(b%32))) }},
		{"Less", word.Less, func(a, b uint32) uint32 { return fewer(signed(a), signed(b)) }},
		{"LessU", word.LessU, func(a, b uint32) uint32 { return fewer(unsigned(a), unsigned(b)) }},
	})
	if got := word.RightS(minus1-6, 1); got != minus1-3 {
		t.Errorf("RightS(-7, 1): %#x", got)
	}
	if l, r, s := word.Left(3, 32), word.Right(least, 63), word.RightS(least, 31); l != 3 || r != 1 || s != minus1 {
		t.Errorf("shifts by 32, 63 and 31: %#x, %#x, %#x", l, r, s)
	}
}

// Promise 1.4: Sign.
func TestSign(t *testing.T) {
	for _, a := range samples() {
		for bits := 1; bits <= 31; bits++ {
			size := int64(1) << bits
			want := int64(a) % size
			if want >= size/2 {
				want -= size
			}
			if got := word.Sign(a, bits); got != uint32(want) {
				t.Errorf("Sign(%#x, %d): %#x, not %#x", a, bits, got, uint32(want))
			}
		}
		for _, bits := range []int{0, -1, -8, -31, 32, 33, 40, 64, 72, math.MaxInt, math.MinInt} {
			if got := word.Sign(a, bits); got != a {
				t.Errorf("Sign(%#x, %d): %#x", a, bits, got)
			}
		}
	}
}

// Promise 1.4: Parts and Whole.
func TestParts(t *testing.T) {
	for _, x := range []struct{ a, high, low uint32 }{
		{0, 0, 0}, {0x7ff, 0, 0x7ff}, {0x800, 0x1000, 0xfffff800}, {0xfff, 0x1000, minus1}, {0x1000, 0x1000, 0},
		{0x12345678, 0x12345000, 0x678}, {minus1, 0, minus1}, {0xfffff800, 0, 0xfffff800}, {0xfffff7ff, 0xfffff000, 0x7ff},
		{0x7fffffff, least, minus1}, {least, least, 0},
	} {
		if h, l := word.Parts(x.a); h != x.high || l != x.low {
			t.Errorf("Parts(%#x): %#x, %#x, not %#x, %#x", x.a, h, l, x.high, x.low)
		}
	}
	for _, a := range samples() {
		h, l := word.Parts(a)
		if h%0x1000 != 0 || int32(l) < -2048 || int32(l) > 2047 || word.Whole(h, l) != a {
			t.Errorf("Parts(%#x): %#x, %#x", a, h, l)
		}
	}
	compare(t, []operation{
		{"Whole", word.Whole, func(a, b uint32) uint32 { return truncated(new(big.Int).Add(unsigned(a), unsigned(b))) }},
	})
}

// Promise 1.5.
func TestLaws(t *testing.T) {
	eachPair(func(a, b uint32) {
		if word.Add(word.Mul(word.Div(a, b), b), word.Rem(a, b)) != a {
			t.Errorf("%#x divided by %#x, signed: quotient times divisor plus remainder is not the dividend", a, b)
		}
		if word.Add(word.Mul(word.DivU(a, b), b), word.RemU(a, b)) != a {
			t.Errorf("%#x divided by %#x: quotient times divisor plus remainder is not the dividend", a, b)
		}
		low := uint64(word.Mul(a, b))
		if uint64(word.High(a, b))<<32|low != uint64(int64(int32(a))*int64(int32(b))) {
			t.Errorf("High and Mul of %#x and %#x", a, b)
		}
		if uint64(word.HighU(a, b))<<32|low != uint64(a)*uint64(b) {
			t.Errorf("HighU and Mul of %#x and %#x", a, b)
		}
		if uint64(word.HighSU(a, b))<<32|low != uint64(int64(int32(a))*int64(b)) {
			t.Errorf("HighSU and Mul of %#x and %#x", a, b)
		}
	})
}
