package tree

import "rushlight/api"

// block adds statements in braces.
func (w *printer) block(l []api.Stmt) {
	w.put("{")
	w.stmts(l)
	w.put("}")
}

// stmts adds statements.
func (w *printer) stmts(l []api.Stmt) {
	for _, s := range l {
		w.stmt(s)
	}
}

// stmt adds a statement.
func (w *printer) stmt(s api.Stmt) {
	switch s.Kind {
	case api.StExpr:
		w.whole(s.A)
		w.put(";")
	case api.StVar:
		for _, v := range s.Var {
			w.variable(v)
		}
	case api.StIf:
		w.headed("if", s)
		if len(s.Else) > 0 {
			w.put("else")
			w.block(s.Else)
		}
	case api.StWhile:
		w.headed("while", s)
	case api.StDo:
		w.put("do")
		w.block(s.Body)
		w.head("while", s.A)
		w.put(";")
	case api.StFor:
		w.head("for", s.A, s.B, s.C)
		w.block(s.Body)
	case api.StSwitch:
		w.head("switch", s.A)
		w.cases(s.Cases)
	case api.StReturn:
		w.put("return")
		w.whole(s.A)
		w.put(";")
	case api.StBreak:
		w.put("break", ";")
	case api.StContinue:
		w.put("continue", ";")
	case api.StBlock:
		w.block(s.Body)
	case api.StEmpty:
		w.put(";")
	}
}

// headed adds a statement of a word, a condition and a body.
func (w *printer) headed(word string, s api.Stmt) {
	w.head(word, s.A)
	w.block(s.Body)
}

// head adds a word with what stands in parentheses behind it.
func (w *printer) head(word string, parts ...[]api.Expr) {
	w.put(word, "(")
	for k, l := range parts {
		if k > 0 {
			w.put(";")
		}
		w.whole(l)
	}
	w.put(")")
}

// cases adds the cases of a switch.
func (w *printer) cases(l []api.Case) {
	w.put("{")
	for _, x := range l {
		if x.Default {
			w.put("default")
		} else {
			w.put("case")
			w.number(x.Num)
		}
		w.put(":")
		w.stmts(x.Body)
	}
	w.put("}")
}
