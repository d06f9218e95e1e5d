package bound

import "rushlight/api"

// How far a search has come with a word.
const (
	unseen = iota
	entered
	left
)

// search finds the longest path that starts at a word.
type search struct {
	*code
	state []int
	words []int // of the longest path from each word that was left, and from the crossing
	stack []visit
}

// visit is a word that is to be entered, or left again.
type visit struct {
	word    int
	leaving bool
}

// longest is the number of words of the longest path; api.ErrRule if one forms a cycle.
func (c *code) longest() (int, api.Errno) {
	places := len(c.insts) + 1
	s := &search{code: c, state: make([]int, places), words: make([]int, places)}
	most := 0
	for mark := range c.marks() {
		first := mark + 1
		if !c.has(first) {
			continue
		}
		if !s.from(first) {
			return 0, api.ErrRule
		}
		most = max(most, s.words[first])
	}
	return most, api.OK
}

// from searches from a word on, and reports whether no path forms a cycle.
// It keeps a stack of its own, since a path may have as many words as there are.
func (s *search) from(n int) bool {
	s.stack = append(s.stack, visit{word: n})
	for len(s.stack) > 0 {
		top := len(s.stack) - 1
		v := s.stack[top]
		s.stack = s.stack[:top]
		if v.leaving {
			s.leave(v.word)
			continue
		}
		if s.state[v.word] == unseen && !s.enter(v.word) {
			return false
		}
	}
	return true
}

// enter enters a word, ahead of its successors; it reports whether none of them leads back here. What was entered and not left is how the search came here.
func (s *search) enter(n int) bool {
	s.state[n] = entered
	s.stack = append(s.stack, visit{word: n, leaving: true})
	for to := range s.successors(n) {
		switch s.state[to] {
		case entered:
			return false
		case unseen:
			s.stack = append(s.stack, visit{word: to})
		}
	}
	return true
}

// leave leaves a word, when all its successors have been left.
func (s *search) leave(n int) {
	s.state[n] = left
	for to := range s.successors(n) {
		s.words[n] = max(s.words[n], s.words[to])
	}
	if n != s.crossing() {
		s.words[n]++
	}
}
