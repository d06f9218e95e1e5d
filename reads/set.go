package reads

// Set is a set of reads: a bit for each.
type Set []uint64

// add makes a read one of the set.
func (s Set) add(n int) { s[n/64] |= 1 << (n % 64) }

// has reports whether a read is one of the set.
func (s Set) has(n int) bool { return s[n/64]>>(n%64)&1 > 0 }

// Join adds all that another set has, and reports whether that was something new. The other one may be nil, and has nothing then.
func (s Set) Join(other Set) bool {
	grown := false
	for k, w := range other {
		grown = grown || w&^s[k] != 0
		s[k] |= w
	}
	return grown
}
