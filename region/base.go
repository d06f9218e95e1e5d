package region

import (
	"slices"

	"rushlight/api"
	"rushlight/flow"
	"rushlight/procs"
)

// mark is a mark.
func mark() api.Ins { return api.Ins{Op: api.IrMark, D: api.None, A: api.None, B: api.None} }

// isMark reports whether an instruction is a mark.
func isMark(i api.Ins) bool { return i.Op == api.IrMark }

// rebuilt is a procedure whose blocks have the instructions that change makes of theirs.
func rebuilt(p api.Proc, change func(n int, l []api.Ins) []api.Ins) api.Proc {
	q := procs.Clone(p)
	for n := range q.Blocks {
		q.Blocks[n].Ins = change(n, q.Blocks[n].Ins)
	}
	return q
}

// Base is a procedure with the base marks.
func Base(p api.Proc) api.Proc {
	first := make([]int, len(p.Blocks)) // above 0 for blocks that begin with a base mark
	for _, edge := range flow.Back(p) {
		first[edge[1]]++
	}
	return rebuilt(p, func(n int, l []api.Ins) []api.Ins {
		var marked []api.Ins
		if n == 0 || first[n] > 0 {
			marked = append(marked, mark())
		}
		for _, i := range l {
			if i.Op == api.IrCall {
				marked = append(marked, mark())
			}
			marked = append(marked, i)
			if i.Op == api.IrCall || i.Op == api.IrOut || i.Op == api.IrIn {
				marked = append(marked, mark())
			}
		}
		return compact(marked)
	})
}

// compact is instructions with only the first of marks that follow each other directly.
func compact(l []api.Ins) []api.Ins {
	return slices.CompactFunc(l, func(a, b api.Ins) bool { return isMark(a) && isMark(b) })
}

// hasBase reports whether a procedure has the base marks, but for those directly behind another mark.
func hasBase(p api.Proc) bool {
	tight := rebuilt(p, func(n int, l []api.Ins) []api.Ins { return compact(l) })
	return procs.Equal(tight, Base(p))
}

// Bare is a procedure without marks and notes.
func Bare(p api.Proc) api.Proc {
	return rebuilt(p, func(n int, l []api.Ins) []api.Ins {
		l = slices.DeleteFunc(l, isMark)
		for k := range l {
			l[k].Log = false
		}
		return l
	})
}
