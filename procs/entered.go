package procs

import "rushlight/api"

// Entered is a procedure in which all blocks of a given one are reached, for the analyses that look only at what is: the blocks stand without
// instructions behind as many others, which do nothing but lead to one of them each, in their order. What is told of block n is told of it
// as of block n + len(p.Blocks). Only those blocks lead on of which on tells so; no end leads back that did not.
func Entered(p api.Proc, on func(n int) bool) api.Proc {
	count := len(p.Blocks)
	l := make([]api.Block, 2*count)
	for n, b := range p.Blocks {
		l[n] = api.Block{End: api.EndBranch, To: count + n, Else: n + 1}
		l[count+n] = api.Block{End: api.EndRet}
		if on(n) {
			l[count+n] = api.Block{End: b.End, A: b.A, To: count + b.To, Else: count + b.Else}
		}
	}
	if count > 0 {
		l[count-1] = api.Block{End: api.EndJump, A: api.None, To: 2*count - 1}
	}
	p.Blocks = l
	return p
}
