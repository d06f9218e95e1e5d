package bound

import (
	"iter"

	"rushlight/api"
	"rushlight/inst"
)

// The registers in which a mark and a call leave where they were made.
const (
	markLink = 5
	callLink = 1
)

// wordSize is how many bytes a word has.
const wordSize = 4

// code is the code of an image.
//
// Each return leads behind each call, which would be a number of edges that is the product of both. So all returns lead to one more place,
// the crossing, behind the last word, and only that leads behind the calls.
type code struct {
	insts  []api.Inst
	behind []int // the words behind calls
}

// decode is the code of words, or api.ErrForm if one of them is no instruction.
func decode(words []uint32) (*code, api.Errno) {
	c := &code{insts: make([]api.Inst, len(words))}
	for n, w := range words {
		i, e := inst.Decode(w)
		if e != api.OK {
			return nil, api.ErrForm
		}
		c.insts[n] = i
		if i.Op == api.OpJal && i.Rd == callLink {
			c.behind = append(c.behind, n+1)
		}
	}
	return c, api.OK
}

// crossing is where returns lead.
func (c *code) crossing() int { return len(c.insts) }

// marks yields the words that are marks.
func (c *code) marks() iter.Seq[int] {
	return func(yield func(n int) bool) {
		for n, i := range c.insts {
			if isMark(i) && !yield(n) {
				return
			}
		}
	}
}

// isMark reports whether an instruction is a mark.
func isMark(i api.Inst) bool { return i.Op == api.OpJal && i.Rd == markLink }

// isReturn reports whether an instruction goes back behind a call.
func isReturn(i api.Inst) bool { return i == api.Inst{Op: api.OpJalr, Rs1: callLink} }

// routine is the number of words of the mark routine; api.ErrNone if there is no mark, or the routine is not inside the code.
func (c *code) routine() (int, api.Errno) {
	for mark := range c.marks() {
		start := c.target(mark)
		for n := start; c.has(n); n++ {
			if c.insts[n].Op == api.OpJalr {
				return n + 1 - start, api.OK
			}
		}
		break // the first mark alone tells where the routine is
	}
	return 0, api.ErrNone
}

// target is the word to which a branch or jump leads.
func (c *code) target(n int) int { return n + c.insts[n].Imm/wordSize }

// has reports whether a word is inside the code.
func (c *code) has(n int) bool { return n >= 0 && n < len(c.insts) }

// successors yields the successors of a word, or of the crossing.
func (c *code) successors(n int) iter.Seq[int] {
	return func(yield func(to int) bool) {
		if c.has(n) && isReturn(c.insts[n]) {
			yield(c.crossing())
			return
		}
		for _, to := range c.ways(n) {
			if c.has(to) && !yield(to) {
				return
			}
		}
	}
}

// ways are the words to which a word that is no return, or the crossing, leads, be they inside the code or not.
func (c *code) ways(n int) []int {
	if n == c.crossing() {
		return c.behind
	}
	switch i := c.insts[n]; {
	case isMark(i) || i.Op == api.OpJalr:
		return nil
	case i.Op == api.OpJal:
		return []int{c.target(n)}
	case inst.Form(i.Op) == 'B':
		return []int{c.target(n), n + 1}
	}
	return []int{n + 1}
}
