package compile

import (
	"iter"

	"rushlight/api"
	"rushlight/dead"
	"rushlight/fold"
	"rushlight/inline"
	"rushlight/procs"
	"rushlight/shape"
)

// rounds is how often each procedure is optimized.
const rounds = 4

// Better is the optimized module.
func Better(m api.Module) api.Module {
	m = inline.All(m)
	for n, p := range m.Procs {
		for better := range versions(p) {
			m.Procs[n] = better
		}
	}
	return m
}

// versions yields the successive versions of a procedure, the last of which is the optimized one.
// It ends early where a round has changed nothing, since then all others would not either.
func versions(p api.Proc) iter.Seq[api.Proc] {
	return func(yield func(p api.Proc) bool) {
		for range rounds {
			q := shape.Tidy(dead.Dead(fold.Fold(p)))
			if !yield(q) || procs.Equal(p, q) {
				return
			}
			p = q
		}
	}
}
