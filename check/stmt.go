package check

import (
	"rushlight/api"
	"rushlight/kind"
)

// act is an act of a kind that evaluates terms.
func act(kind int, terms ...api.Term) api.Act { return api.Act{Kind: kind, A: terms} }

// block is the acts of statements that form a block.
func (c *checker) block(l []api.Stmt) []api.Act {
	c.open()
	defer c.shut()
	return c.statements(l)
}

// statements is the acts of statements.
func (c *checker) statements(l []api.Stmt) []api.Act {
	var acts []api.Act
	for _, s := range l {
		acts = append(acts, c.statement(s)...)
	}
	return acts
}

// statement is the acts of a statement.
func (c *checker) statement(s api.Stmt) []api.Act {
	switch s.Kind {
	case api.StExpr:
		return []api.Act{act(api.AcExpr, terms(s.A, c.effect)...)}
	case api.StVar:
		var acts []api.Act
		for _, v := range s.Var {
			acts = append(acts, c.local(v)...)
		}
		return acts
	case api.StIf:
		return []api.Act{{Kind: api.AcIf, A: terms(s.A, c.condition), Body: c.block(s.Body), Else: c.block(s.Else)}}
	case api.StWhile, api.StDo, api.StFor:
		return []api.Act{c.loop(s)}
	case api.StSwitch:
		return []api.Act{c.choose(s)}
	case api.StReturn:
		return []api.Act{c.giveBack(s)}
	case api.StBreak:
		require(c.loops+c.switches > 0, s.Pos, api.ErrRule)
		return []api.Act{act(api.AcBreak)}
	case api.StContinue:
		require(c.loops > 0, s.Pos, api.ErrRule)
		return []api.Act{act(api.AcContinue)}
	case api.StBlock:
		return []api.Act{{Kind: api.AcBlock, Body: c.block(s.Body)}}
	}
	return nil
}

// terms is what f makes of an expression, or of none.
func terms(l []api.Expr, f func(x api.Expr) api.Term) []api.Term {
	var made []api.Term
	for _, x := range l {
		made = append(made, f(x))
	}
	return made
}

// effect is an expression that is evaluated for what it does.
func (c *checker) effect(x api.Expr) api.Term {
	v := c.expr(x)
	if v.place && !c.kinds.Scalar(v.kind) {
		return v.Term
	}
	return c.read(v).Term
}

// condition is an expression that is asked whether it is 0.
func (c *checker) condition(x api.Expr) api.Term {
	v := c.value(x)
	c.needScalar(v)
	return v.Term
}

// loop is a while, do or for. What it consists of is checked in source order.
func (c *checker) loop(s api.Stmt) api.Act {
	switch s.Kind {
	case api.StWhile:
		return api.Act{Kind: api.AcLoop, A: terms(s.A, c.condition), Body: c.repeated(s.Body)}
	case api.StDo:
		body := c.repeated(s.Body)
		return api.Act{Kind: api.AcLoop, A: terms(s.A, c.condition), First: true, Body: body}
	}
	var acts []api.Act
	for _, t := range terms(s.A, c.effect) {
		acts = append(acts, act(api.AcExpr, t))
	}
	l := api.Act{Kind: api.AcLoop, A: terms(s.B, c.condition), Post: terms(s.C, c.effect)}
	l.Body = c.repeated(s.Body)
	return api.Act{Kind: api.AcBlock, Body: append(acts, l)}
}

// repeated is the body of a loop.
func (c *checker) repeated(l []api.Stmt) []api.Act {
	c.loops++
	defer func() { c.loops-- }()
	return c.block(l)
}

// choose is a switch.
func (c *checker) choose(s api.Stmt) api.Act {
	a := act(api.AcSwitch, terms(s.A, c.number)...)
	c.switches++
	defer func() { c.switches-- }()
	type label struct {
		other bool
		num   uint32
	}
	seen := map[label]struct{}{}
	for _, x := range s.Cases {
		l := label{x.Default, x.Num}
		_, twice := seen[l]
		require(!twice, x.Pos, api.ErrTwice)
		seen[l] = struct{}{}
		a.Cases = append(a.Cases, api.Choice{Default: x.Default, Num: x.Num, Body: c.block(x.Body)})
	}
	return a
}

// number is an expression that must be an int.
func (c *checker) number(x api.Expr) api.Term {
	v := c.value(x)
	c.needInt(v)
	return v.Term
}

// giveBack is a return.
func (c *checker) giveBack(s api.Stmt) api.Act {
	require(len(s.A) > 0 || c.returned == kind.Void, s.Pos, api.ErrType)
	return act(api.AcReturn, terms(s.A, func(x api.Expr) api.Term { return c.pass(c.value(x), c.returned) })...)
}
