package tree

import "rushlight/api"

// program is what the whole text is.
func (p *parser) program() api.Program {
	var all api.Program
	for len(p.tokens) > 0 {
		if p.is("struct") && p.ahead(2).Text == "{" {
			all.Structs = append(all.Structs, p.structure())
			continue
		}
		head := p.typed()
		if p.is("(") {
			all.Funcs = append(all.Funcs, p.function(head))
		} else {
			all.Globals = append(all.Globals, p.variable(head))
		}
	}
	return all
}

// structure is the definition of a struct.
func (p *parser) structure() api.Struct {
	s := api.Struct{Pos: p.next().Pos, Name: p.take(api.TokName).Text}
	p.expect("{")
	for !p.accept("}") {
		f := p.typed()
		f.Dims = p.dimensions()
		p.expect(";")
		s.Fields = append(s.Fields, f)
	}
	p.expect(";")
	return s
}

// typed is a type and a name, as variables, parameters, fields and functions begin with them.
func (p *parser) typed() api.Var {
	pos := p.peek().Pos
	return api.Var{Pos: pos, Type: p.typeName(), Name: p.take(api.TokName).Text}
}

// typeName is the name of a type.
func (p *parser) typeName() api.TypeName {
	if !isType(p.peek()) {
		p.fail(api.ErrForm)
	}
	t := api.TypeName{Word: p.next().Text}
	if t.Word == "struct" {
		t.Name = p.take(api.TokName).Text
	}
	for p.accept("*") {
		t.Stars++
	}
	return t
}

// isType reports whether a type begins with t.
func isType(t api.Token) bool {
	switch t.Text {
	case "int", "char", "void", "struct":
		return true
	}
	return false
}

// dimensions is the dimensions of a variable or field.
func (p *parser) dimensions() []uint32 {
	var l []uint32
	for p.accept("[") {
		l = append(l, p.take(api.TokNum).Num)
		p.expect("]")
	}
	return l
}

// variable is the variable that begins with head.
func (p *parser) variable(head api.Var) api.Var {
	v := head
	v.Dims = p.dimensions()
	if p.accept("=") {
		v.Brace = p.accept("{")
		v.Init = []api.Expr{p.assign()}
		for v.Brace && p.accept(",") {
			v.Init = append(v.Init, p.assign())
		}
		if v.Brace {
			p.expect("}")
		}
	}
	p.expect(";")
	return v
}

// function is the function that begins with head.
func (p *parser) function(head api.Var) api.Func {
	f := api.Func{Pos: head.Pos, Ret: head.Type, Name: head.Name}
	p.expect("(")
	f.Params = p.parameters()
	p.expect(")")
	f.Body = p.block()
	return f
}

// parameters is what stands between the parentheses of a function.
func (p *parser) parameters() []api.Var {
	if p.is("void") && p.ahead(1).Text == ")" {
		p.next()
		return nil
	}
	if p.is(")") {
		return nil
	}
	l := []api.Var{p.typed()}
	for p.accept(",") {
		l = append(l, p.typed())
	}
	return l
}
