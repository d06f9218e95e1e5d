package tree

import "rushlight/api"

// block is the statements between two braces.
func (p *parser) block() []api.Stmt {
	var l []api.Stmt
	p.expect("{")
	for !p.accept("}") {
		l = append(l, p.stmt())
	}
	return l
}

// body is the statements of a block, or a single statement.
func (p *parser) body() []api.Stmt {
	s := p.stmt()
	if s.Kind == api.StBlock {
		return s.Body
	}
	return []api.Stmt{s}
}

// isStmt reports whether a statement begins with t.
func isStmt(t api.Token) bool {
	switch t.Text {
	case "if", "while", "do", "for", "switch", "return", "break", "continue", "{", ";":
		return true
	}
	return isType(t) || isExpr(t)
}

// stmt is a statement.
func (p *parser) stmt() api.Stmt {
	p.enter(isStmt)
	pos := p.peek().Pos
	var s api.Stmt
	switch {
	case isType(p.peek()):
		s = api.Stmt{Kind: api.StVar, Var: []api.Var{p.variable(p.typed())}}
	case isExpr(p.peek()):
		s = api.Stmt{Kind: api.StExpr, A: p.parts(";")}
	case p.is("{"):
		s = api.Stmt{Kind: api.StBlock, Body: p.block()}
	default:
		s = p.worded()
	}
	s.Pos = pos
	p.leave()
	return s
}

// worded is a statement that its first token tells from all others.
func (p *parser) worded() api.Stmt {
	switch p.next().Text {
	case "if":
		s := api.Stmt{Kind: api.StIf, A: p.condition(), Body: p.body()}
		if p.accept("else") {
			s.Else = p.body()
		}
		return s
	case "while":
		return api.Stmt{Kind: api.StWhile, A: p.condition(), Body: p.body()}
	case "do":
		s := api.Stmt{Kind: api.StDo, Body: p.body()}
		p.expect("while")
		s.A = p.condition()
		p.expect(";")
		return s
	case "for":
		p.expect("(")
		return api.Stmt{Kind: api.StFor, A: p.parts(";"), B: p.parts(";"), C: p.parts(")"), Body: p.body()}
	case "switch":
		return api.Stmt{Kind: api.StSwitch, A: p.condition(), Cases: p.cases()}
	case "return":
		return api.Stmt{Kind: api.StReturn, A: p.parts(";")}
	case "break":
		p.expect(";")
		return api.Stmt{Kind: api.StBreak}
	case "continue":
		p.expect(";")
		return api.Stmt{Kind: api.StContinue}
	}
	return api.Stmt{Kind: api.StEmpty}
}

// condition is an expression in parentheses.
func (p *parser) condition() []api.Expr {
	p.expect("(")
	l := []api.Expr{p.assign()}
	p.expect(")")
	return l
}

// parts is an expression that a symbol ends, or none and the symbol alone.
func (p *parser) parts(end string) []api.Expr {
	if p.accept(end) {
		return nil
	}
	l := []api.Expr{p.assign()}
	p.expect(end)
	return l
}

// cases is what stands between the braces of a switch.
func (p *parser) cases() []api.Case {
	var l []api.Case
	p.expect("{")
	for !p.accept("}") {
		x := p.label()
		for !p.is("case") && !p.is("default") && !p.is("}") {
			x.Body = append(x.Body, p.stmt())
		}
		l = append(l, x)
	}
	return l
}

// label is a label, as a case without statements.
func (p *parser) label() api.Case {
	x := api.Case{Pos: p.peek().Pos, Default: p.accept("default")}
	if !x.Default {
		p.expect("case")
		negative := p.accept("-")
		x.Num = p.take(api.TokNum).Num
		if negative {
			x.Num = -x.Num
		}
	}
	p.expect(":")
	return x
}
