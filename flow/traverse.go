package flow

import "rushlight/api"

// How a traversal stands to a block.
const (
	unseen = iota
	entered
	left
)

// traversal is a depth-first traversal.
type traversal struct {
	state []int    // of each block
	path  []visit  // the blocks that are entered, each with the one that led to it ahead
	left  []int    // the blocks that are left, in that order
	back  [][2]int // the back edges, as they are examined
}

// visit is a block that has been entered, and which of its successors are still to be examined.
type visit struct {
	block int
	rest  []int
}

// traverse is the traversal of a procedure. It keeps its path itself: that may be longer than calls can be nested.
func traverse(p api.Proc) traversal {
	t := traversal{state: make([]int, len(p.Blocks))}
	if len(p.Blocks) > 0 {
		t.enter(p, 0)
	}
	for len(t.path) > 0 {
		v := &t.path[len(t.path)-1]
		if len(v.rest) == 0 {
			t.leave(v.block)
			continue
		}
		to := v.rest[0]
		v.rest = v.rest[1:]
		switch t.state[to] {
		case unseen:
			t.enter(p, to)
		case entered:
			t.back = append(t.back, [2]int{v.block, to})
		}
	}
	return t
}

// enter goes on to a block.
func (t *traversal) enter(p api.Proc, n int) {
	t.state[n] = entered
	t.path = append(t.path, visit{block: n, rest: outs(p, n)})
}

// leave goes back from the block that was entered last.
func (t *traversal) leave(n int) {
	t.state[n] = left
	t.left = append(t.left, n)
	t.path = t.path[:len(t.path)-1]
}
