package drawn

import (
	"slices"

	"rushlight/api"
	"rushlight/check"
	"rushlight/ir"
	"rushlight/irrun"
	"rushlight/lower"
	"rushlight/tree"
)

// Lowered is the module of the tame program n.
func Lowered(n int) api.Module {
	p, _, _ := tree.Read(Tame(n))
	u, _, _ := check.Check(p)
	m, _ := lower.Lower(u)
	return m
}

// Unequal tells what shows that the procedures of a valid module are not equivalent to what they are changed to: the module is not valid any more,
// or a run of so many steps that terminated has another outcome. It is empty if nothing shows that.
func Unequal(m api.Module, steps int, change func(p api.Proc) api.Proc) string {
	changed := m
	changed.Procs = nil
	texts := ""
	for _, p := range m.Procs {
		q := change(p)
		if q.Name != p.Name || q.Void != p.Void || q.Params != p.Params {
			return "another Name, Void or Params"
		}
		changed.Procs = append(changed.Procs, q)
		texts += "\n" + ir.Text(p) + "became\n" + ir.Text(q)
	}
	if ir.Check(changed) != api.OK {
		return "not valid:" + texts
	}
	for _, inputs := range [][]uint32{nil, {1, 300, 1<<32 - 1}, {7, 0, 2, 5, 1 << 31}} {
		if was := irrun.Run(m, inputs, steps); was.E == api.OK && !SameOutcome(was, irrun.Run(changed, inputs, steps)) {
			return "another outcome:" + texts
		}
	}
	return ""
}

// SameOutcome reports whether two outcomes are the same.
func SameOutcome(a, b api.Outcome) bool {
	return slices.Equal(a.Out, b.Out) && a.Ins == b.Ins && a.Exit == b.Exit && a.E == b.E
}
