package lower

import "rushlight/api"

// Plain reports for each slot whether it is plain.
func Plain(c api.Code) []bool {
	plain := make([]bool, len(c.Slots))
	for n, s := range c.Slots {
		plain[n] = s.Cell > 0
	}
	eachTerm(c.Body, func(t *api.Term) { exclude(t, plain) })
	return plain
}

// exclude takes those slots from the plain ones of which a term, or an operand, asks where they lie for more than to read or write them.
func exclude(t *api.Term, plain []bool) {
	if n := slotOf(t); n >= 0 && n < len(plain) {
		plain[n] = false
	}
	for k := range t.Kids {
		if k > 0 || !accesses(t) || slotOf(&t.Kids[k]) < 0 {
			exclude(&t.Kids[k], plain)
		}
	}
}

// slotOf is the slot whose address a term is, or api.None.
func slotOf(t *api.Term) int {
	if t.Kind == api.TmAddr && !t.Global {
		return t.Var
	}
	return api.None
}

// accesses reports whether a term reads or writes what lies at its first operand.
func accesses(t *api.Term) bool { return t.Kind == api.TmLoad || changes(t) }

// changes reports whether a term writes what lies at its first operand.
func changes(t *api.Term) bool {
	return t.Kind == api.TmStore || t.Kind == api.TmStep || t.Kind == api.TmUpdate
}

// eachTerm calls f for all terms of acts that are no operands.
func eachTerm(l []api.Act, f func(t *api.Term)) {
	for k := range l {
		a := &l[k]
		for n := range a.A {
			f(&a.A[n])
		}
		for n := range a.Post {
			f(&a.Post[n])
		}
		eachTerm(a.Body, f)
		eachTerm(a.Else, f)
		for n := range a.Cases {
			eachTerm(a.Cases[n].Body, f)
		}
	}
}
