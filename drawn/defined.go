package drawn

import (
	"rushlight/api"
	"rushlight/check"
	"rushlight/dead"
	"rushlight/fold"
	"rushlight/inline"
	"rushlight/interp"
	"rushlight/irrun"
	"rushlight/lower"
	"rushlight/shape"
	"rushlight/tree"
)

// Defined is the module of the tame program n, and what the program does with some inputs; or false if that is undefined or takes long.
func Defined(n int, inputs []uint32) (api.Module, api.Outcome, bool) {
	return DefinedText(Tame(n), inputs)
}

// DefinedText is the module of a program, and what that does with some inputs; or false if that is undefined or takes long.
func DefinedText(s string, inputs []uint32) (api.Module, api.Outcome, bool) {
	p, _, _ := tree.Read(s)
	u, _, _ := check.Check(p)
	want := interp.Run(u, inputs, 20000)
	m, e := lower.Lower(u)
	return m, want, want.E == api.OK && e == api.OK && irrun.Run(m, inputs, 10000).E == api.OK
}

// Better is a module whose small procedures are inlined, and all of whose procedures are folded, and so on.
func Better(m api.Module) api.Module {
	m = inline.All(m)
	for n, p := range m.Procs {
		m.Procs[n] = shape.Tidy(dead.Dead(fold.Fold(p)))
	}
	return m
}
