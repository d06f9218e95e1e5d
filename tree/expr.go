package tree

import "rushlight/api"

// isExpr reports whether an expression begins with t.
func isExpr(t api.Token) bool {
	switch t.Text {
	case "-", "~", "!", "*", "&", "++", "--", "(", "sizeof", "out", "in":
		return true
	}
	return t.Kind == api.TokNum || t.Kind == api.TokName
}

// isAssign reports whether s is an operator of an assignment.
func isAssign(s string) bool {
	switch s {
	case "=", "+=", "-=", "*=", "/=", "%=", "&=", "|=", "^=", "<<=", ">>=":
		return true
	}
	return false
}

// precedence is that of an operator between two operands; 0 if s is none.
func precedence(s string) int {
	switch s {
	case "||":
		return 1
	case "&&":
		return 2
	case "|":
		return 3
	case "^":
		return 4
	case "&":
		return 5
	case "==", "!=":
		return 6
	case "<", ">", "<=", ">=":
		return 7
	case "<<", ">>":
		return 8
	case "+", "-":
		return 9
	case "*", "/", "%":
		return 10
	}
	return 0
}

// operation is an expression of the operator t.
func operation(kind int, t api.Token, kids ...api.Expr) api.Expr {
	return api.Expr{Kind: kind, Pos: t.Pos, Op: t.Text, Kids: kids}
}

// assign is an expression of any form.
func (p *parser) assign() api.Expr {
	p.enter(isExpr)
	x := p.cond()
	if isAssign(p.peek().Text) {
		op := p.next()
		x = operation(api.ExAssign, op, x, p.assign())
	}
	p.leave()
	return x
}

// cond is an expression that is no assignment.
func (p *parser) cond() api.Expr {
	x := p.binary(1)
	if !p.is("?") {
		return x
	}
	pos := p.next().Pos
	then := p.assign()
	p.expect(":")
	p.enter(isExpr)
	other := p.cond()
	p.leave()
	return api.Expr{Kind: api.ExCond, Pos: pos, Kids: []api.Expr{x, then, other}}
}

// binary is operands with operators of at least some precedence between them.
func (p *parser) binary(least int) api.Expr {
	x := p.unary()
	for {
		level := precedence(p.peek().Text)
		if level < least {
			return x
		}
		op := p.next()
		x = operation(api.ExBinary, op, x, p.binary(level+1))
	}
}

// unary is an operand.
func (p *parser) unary() api.Expr {
	p.enter(isExpr)
	var x api.Expr
	switch t := p.peek(); t.Text {
	case "-", "~", "!", "*", "&":
		x = operation(api.ExUnary, p.next(), p.unary())
	case "++", "--":
		x = operation(api.ExPre, p.next(), p.unary())
	case "sizeof":
		p.next()
		p.expect("(")
		x = api.Expr{Kind: api.ExSize, Pos: t.Pos, Type: p.typeName()}
		p.expect(")")
	default:
		x = p.post()
	}
	p.leave()
	return x
}

// post is an operand with what stands behind it.
func (p *parser) post() api.Expr {
	x := p.prime()
	for {
		switch t := p.peek(); t.Text {
		case "[":
			p.next()
			x = api.Expr{Kind: api.ExIndex, Pos: t.Pos, Kids: []api.Expr{x, p.assign()}}
			p.expect("]")
		case ".", "->":
			x = operation(api.ExMember, p.next(), x)
			x.Name = p.take(api.TokName).Text
		case "++", "--":
			x = operation(api.ExPost, p.next(), x)
		default:
			return x
		}
	}
}

// prime is an operand with nothing behind it.
func (p *parser) prime() api.Expr {
	t := p.next()
	switch {
	case t.Kind == api.TokNum:
		return api.Expr{Kind: api.ExNum, Pos: t.Pos, Num: t.Num}
	case t.Text == "(":
		x := p.assign()
		p.expect(")")
		return x
	case t.Text == "in":
		p.expect("(")
		p.expect(")")
		return api.Expr{Kind: api.ExCall, Pos: t.Pos, Name: t.Text}
	case t.Text == "out":
		p.expect("(")
		x := p.assign()
		p.expect(")")
		return api.Expr{Kind: api.ExCall, Pos: t.Pos, Name: t.Text, Kids: []api.Expr{x}}
	case p.is("("):
		return api.Expr{Kind: api.ExCall, Pos: t.Pos, Name: t.Text, Kids: p.arguments()}
	}
	return api.Expr{Kind: api.ExName, Pos: t.Pos, Name: t.Text}
}

// arguments is the arguments of a call, with their parentheses.
func (p *parser) arguments() []api.Expr {
	p.expect("(")
	if p.accept(")") {
		return nil
	}
	l := []api.Expr{p.assign()}
	for p.accept(",") {
		l = append(l, p.assign())
	}
	p.expect(")")
	return l
}
