package shape

import (
	"slices"

	"rushlight/api"
)

// threaded are blocks that lead where they lead in the end. Their instructions are shared with the given ones.
func threaded(l []api.Block) []api.Block {
	targets := finals(l)
	l = slices.Clone(l)
	for n := range l {
		b := &l[n]
		lead(b, func(to int) int { return targets[to] }, len(l))
		if b.End == api.EndBranch && b.To == b.Else {
			b.End, b.A, b.Else = api.EndJump, api.None, 0
		}
	}
	return l
}

// finals is the final target of each block. Each block is followed only as far as to one whose target is known, so chains of any length take
// no more time than there are blocks.
func finals(l []api.Block) []int {
	targets := slices.Repeat([]int{api.None}, len(l))
	place := slices.Repeat([]int{api.None}, len(l)) // of each block, in the chain on which it was met first
	for n := range l {
		var chain []int
		final, at := api.None, n
	follow:
		for {
			switch {
			case targets[at] != api.None:
				final = targets[at]
				break follow
			case !trivial(l, at):
				final = at
				break follow
			case place[at] != api.None: // only blocks of this chain have a place and no target: it leads back into itself
				final = slices.Min(chain[place[at]:])
				break follow
			}
			place[at] = len(chain)
			chain = append(chain, at)
			at = l[at].To
		}
		targets[n] = final
		for _, at := range chain {
			targets[at] = final
		}
	}
	return targets
}

// trivial reports whether a block does nothing but lead to another one.
func trivial(l []api.Block, n int) bool {
	b := l[n]
	return len(b.Ins) == 0 && b.End == api.EndJump && b.To != n && b.To >= 0 && b.To < len(l)
}
