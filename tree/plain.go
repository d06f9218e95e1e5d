package tree

import (
	"slices"

	"rushlight/api"
)

// each is a new list of what f makes of the parts of l.
func each[T any](l []T, f func(x T) T) []T {
	var made []T
	for _, x := range l {
		made = append(made, f(x))
	}
	return made
}

// plainStruct is a struct without positions.
func plainStruct(s api.Struct) api.Struct {
	s.Pos = api.Pos{}
	s.Fields = each(s.Fields, plainVar)
	return s
}

// plainFunc is a function without positions.
func plainFunc(f api.Func) api.Func {
	f.Pos = api.Pos{}
	f.Params = each(f.Params, plainVar)
	f.Body = each(f.Body, plainStmt)
	return f
}

// plainVar is a variable, parameter or field without positions.
func plainVar(v api.Var) api.Var {
	v.Pos = api.Pos{}
	v.Dims = slices.Clone(v.Dims)
	v.Init = each(v.Init, plainExpr)
	return v
}

// plainStmt is a statement without positions.
func plainStmt(s api.Stmt) api.Stmt {
	s.Pos = api.Pos{}
	s.A = each(s.A, plainExpr)
	s.B = each(s.B, plainExpr)
	s.C = each(s.C, plainExpr)
	s.Var = each(s.Var, plainVar)
	s.Body = each(s.Body, plainStmt)
	s.Else = each(s.Else, plainStmt)
	s.Cases = each(s.Cases, plainCase)
	return s
}

// plainCase is a case of a switch without positions.
func plainCase(x api.Case) api.Case {
	x.Pos = api.Pos{}
	x.Body = each(x.Body, plainStmt)
	return x
}

// plainExpr is an expression without positions.
func plainExpr(x api.Expr) api.Expr {
	x.Pos = api.Pos{}
	x.Kids = each(x.Kids, plainExpr)
	return x
}
