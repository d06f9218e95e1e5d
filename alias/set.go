package alias

import "math/bits"

// words is how many words have a bit for each memory region that a valid procedure can have: 400 objects, 200 globals and everything else.
const words = 10

// set is a set of memory regions: a bit for each.
type set [words]uint64

// add makes a memory region one of the set. One beyond all that a valid procedure can have is none.
func (s *set) add(n int) {
	if n >= 0 && n < 64*words {
		s[n/64] |= 1 << (n % 64)
	}
}

// join adds all that another set has, and reports whether that was something new.
func (s *set) join(other *set) bool {
	grown := false
	for k, w := range other {
		grown = grown || w&^s[k] != 0
		s[k] |= w
	}
	return grown
}

// meets reports whether the set has something that another one has too.
func (s *set) meets(other *set) bool {
	for k, w := range other {
		if w&s[k] != 0 {
			return true
		}
	}
	return false
}

// list is what the set has, ascending.
func (s *set) list() []int {
	var l []int
	for k, w := range s {
		for ; w != 0; w &= w - 1 {
			l = append(l, 64*k+bits.TrailingZeros64(w))
		}
	}
	return l
}
