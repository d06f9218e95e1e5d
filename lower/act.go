package lower

import "rushlight/api"

// acts makes the code of acts, as far as something leads to it and the procedure is not too long already.
func (b *builder) acts(l []api.Act) {
	for k := range l {
		if !b.reached() || b.tooLong() {
			return
		}
		b.act(&l[k])
	}
}

// act makes the code of an act.
func (b *builder) act(a *api.Act) {
	switch a.Kind {
	case api.AcExpr:
		b.effect(&a.A[0])
	case api.AcIf:
		b.branch(a)
	case api.AcLoop:
		b.loop(a)
	case api.AcSwitch:
		b.choose(a)
	case api.AcReturn:
		b.giveBack(a.A)
	case api.AcBreak:
		b.jump(b.breaks[len(b.breaks)-1])
	case api.AcContinue:
		b.jump(b.continues[len(b.continues)-1])
	case api.AcBlock:
		b.acts(a.Body)
	case api.AcNew: // whatever a variable holds, as long as it is unset nothing asks for it
	}
}

// branch makes the code of an AcIf.
func (b *builder) branch(a *api.Act) {
	yes, no, end := newTarget(), newTarget(), newTarget()
	if len(a.Else) == 0 {
		no = end
	}
	b.condition(&a.A[0], yes, no)
	b.begin(yes)
	b.acts(a.Body)
	if no != end {
		b.jump(end)
		b.begin(no)
		b.acts(a.Else)
	}
	b.begin(end)
}

// loop makes the code of an AcLoop.
func (b *builder) loop(a *api.Act) {
	start, next, end := newTarget(), newTarget(), newTarget()
	b.beginLoop(start)
	if a.First {
		b.round(a, next, end)
		b.ask(a, start, end)
	} else {
		body := newTarget()
		b.ask(a, body, end)
		b.begin(body)
		b.round(a, next, end)
	}
	b.jump(start)
	b.begin(end)
}

// ask goes on with another round of a loop if its condition holds, and else at its end. Without a condition it goes on where it is.
func (b *builder) ask(a *api.Act, body, end *target) {
	if len(a.A) > 0 {
		b.condition(&a.A[0], body, end)
	}
}

// round makes the code of a round of a loop, up to where it asks again; continue and break lead to next and end.
func (b *builder) round(a *api.Act, next, end *target) {
	outer := len(b.continues)
	b.continues = append(b.continues, next)
	b.breakable(end, func() { b.acts(a.Body) })
	b.continues = truncated(b.continues, outer)
	b.begin(next)
	for k := range a.Post {
		b.effect(&a.Post[k])
	}
}

// breakable makes the code of what break leads out of, to end.
func (b *builder) breakable(end *target, inner func()) {
	outer := len(b.breaks)
	b.breaks = append(b.breaks, end)
	inner()
	b.breaks = truncated(b.breaks, outer)
}

// truncated is the first n targets. The capacity ends with them, so that what is appended next does not lie where those behind them did.
func truncated(l []*target, n int) []*target { return l[:n:n] }

// choose makes the code of an AcSwitch: first it asks for one case after the other, and then there are their statements.
func (b *builder) choose(a *api.Act) {
	r, end := b.value(&a.A[0]), newTarget()
	other := end
	var bodies []*target
	for k := range a.Cases {
		body := newTarget()
		bodies = append(bodies, body)
		if a.Cases[k].Default {
			other = body
			continue
		}
		next := newTarget()
		b.fork(b.binary(api.FnEq, r, b.constant(a.Cases[k].Num)), body, next)
		b.begin(next)
	}
	b.jump(other)
	b.breakable(end, func() {
		for k, body := range bodies {
			b.begin(body)
			b.acts(a.Cases[k].Body)
		}
	})
	b.begin(end)
}

// giveBack makes the code of a return; without a value, the result is 0 if there must be one.
func (b *builder) giveBack(value []api.Term) {
	r := api.None
	switch {
	case len(value) > 0:
		r = b.value(&value[0])
	case !b.code.Void:
		r = b.constant(0)
	}
	b.end(api.EndRet, r, 0, 0)
}
