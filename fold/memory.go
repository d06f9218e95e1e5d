package fold

import "slices"

// What the places of addresses are behind.
const (
	behindValue = iota // a value of which nothing is known
	inFrame            // the start of the frame
	inGlobal           // the start of a global
)

// place is an address, so far as it is known.
type place struct {
	kind   int
	number int // of the value or the global
	at     int // how far behind
}

// span is bytes of memory.
type span struct {
	place
	size int
}

// apart reports whether bytes are sure to be others than some.
func (s span) apart(t span) bool {
	switch {
	case s.kind == t.kind && s.number == t.number:
		return s.at+s.size <= t.at || t.at+t.size <= s.at
	case s.kind != inGlobal || t.kind != inGlobal:
		return false
	case s.number > t.number:
		return t.apart(s)
	}
	// Each global begins at a multiple of 4 behind those ahead of it (layer 14), however long they are.
	return s.at+s.size <= t.at+4*(t.number-s.number)
}

// content is a value that lies in memory.
type content struct {
	span
	value int
}

// memory is what is known to lie in memory.
type memory []content

// at is the value that lies in bytes, if it is known.
func (m memory) at(s span) (int, bool) {
	for _, c := range m {
		if c.span == s {
			return c.value, true
		}
	}
	return 0, false
}

// learn adds that a value lies in bytes.
func (m *memory) learn(s span, v int) { *m = append(*m, content{s, v}) }

// overwrite forgets what may lie in bytes that are written to.
func (m *memory) overwrite(s span) {
	*m = slices.DeleteFunc(*m, func(c content) bool { return !s.apart(c.span) })
}
