// Package word is layer 1, the arithmetic of the machine on 32-bit words: see shared/doc/01-word.md.
package word

// width is how many bits a word has; a shift looks at the lowest five bits of its distance only.
const (
	width    = 32
	distance = width - 1
)

// signed converts both words to signed numbers and truncates what op makes of them.
// 64 bits hold whatever an operation makes of two such numbers, so no op needs a case for overflow.
func signed(a, b uint32, op func(x, y int64) int64) uint32 {
	return uint32(op(int64(int32(a)), int64(int32(b))))
}

// Add is the truncated sum.
func Add(a, b uint32) uint32 { return a + b }

// Sub is the truncated difference.
func Sub(a, b uint32) uint32 { return a - b }

// Mul is the truncated product.
func Mul(a, b uint32) uint32 { return a * b }

// High is the upper half of the product of two signed numbers.
func High(a, b uint32) uint32 {
	return signed(a, b, func(x, y int64) int64 { return x * y >> width })
}

// HighU is the upper half of the product of two unsigned numbers.
func HighU(a, b uint32) uint32 { return uint32(uint64(a) * uint64(b) >> width) }

// HighSU is the upper half of the product of the signed a and the unsigned b.
func HighSU(a, b uint32) uint32 {
	return signed(a, b, func(x, _ int64) int64 { return x * int64(b) >> width })
}

// Div is the quotient of two signed numbers, rounded towards 0; all ones if b is 0.
func Div(a, b uint32) uint32 {
	return signed(a, b, func(x, y int64) int64 {
		if y == 0 {
			return -1
		}
		return x / y
	})
}

// DivU is the quotient of two unsigned numbers, rounded towards 0; all ones if b is 0.
func DivU(a, b uint32) uint32 {
	if b == 0 {
		return ^uint32(0)
	}
	return a / b
}

// Rem is the remainder that belongs to Div, with the sign of a; a if b is 0.
func Rem(a, b uint32) uint32 {
	return signed(a, b, func(x, y int64) int64 {
		if y == 0 {
			return x
		}
		return x % y
	})
}

// RemU is the remainder that belongs to DivU; a if b is 0.
func RemU(a, b uint32) uint32 {
	if b == 0 {
		return a
	}
	return a % b
}

// Left is a shifted to the left, truncated.
func Left(a, b uint32) uint32 { return a << (b & distance) }

// Right is a shifted to the right, filled with zeros.
func Right(a, b uint32) uint32 { return a >> (b & distance) }

// RightS is a shifted to the right, filled with its highest bit.
func RightS(a, b uint32) uint32 {
	return signed(a, b, func(x, _ int64) int64 { return x >> (b & distance) })
}

// Less is 1 if a is less than b, both signed, and 0 otherwise.
func Less(a, b uint32) uint32 {
	return signed(a, b, func(x, y int64) int64 {
		if x < y {
			return 1
		}
		return 0
	})
}

// LessU is 1 if a is less than b, both unsigned, and 0 otherwise.
func LessU(a, b uint32) uint32 {
	if a < b {
		return 1
	}
	return 0
}

// Sign is the signed number in the lowest bits of a; a itself if bits is not from 1 to 31.
func Sign(a uint32, bits int) uint32 {
	if bits < 1 || bits >= width {
		return a
	}
	gap := uint32(width - bits)
	return RightS(Left(a, gap), gap)
}

// Parts splits a into what lui and a signed 12-bit immediate give.
// The low part may be negative, so the high part is what is missing and not just the upper bits of a.
func Parts(a uint32) (high, low uint32) {
	low = Sign(a, 12)
	return Sub(a, low), low
}

// Whole is the truncated sum of both parts.
func Whole(high, low uint32) uint32 { return Add(high, low) }
