package tree

import (
	"strconv"

	"rushlight/api"
)

// printer collects the tokens of a printed form. A tree that no text has is printed as far as its parts are there.
type printer struct {
	tokens []api.Token
}

// put adds tokens.
func (w *printer) put(texts ...string) {
	for _, s := range texts {
		w.tokens = append(w.tokens, api.Token{Text: s})
	}
}

// number adds a number.
func (w *printer) number(n uint32) { w.put(strconv.FormatUint(uint64(n), 10)) }

// program adds a program.
func (w *printer) program(p api.Program) {
	for _, s := range p.Structs {
		w.put("struct", s.Name, "{")
		for _, f := range s.Fields {
			w.variable(f)
		}
		w.put("}", ";")
	}
	for _, v := range p.Globals {
		w.variable(v)
	}
	for _, f := range p.Funcs {
		w.function(f)
	}
}

// function adds a function.
func (w *printer) function(f api.Func) {
	w.typeName(f.Ret)
	w.put(f.Name, "(")
	for k, v := range f.Params {
		w.comma(k)
		w.typeName(v.Type)
		w.put(v.Name)
	}
	w.put(")")
	w.block(f.Body)
}

// comma adds what separates part k of a list from those ahead of it.
func (w *printer) comma(k int) {
	if k > 0 {
		w.put(",")
	}
}

// typeName adds the name of a type.
func (w *printer) typeName(t api.TypeName) {
	w.put(t.Word)
	if t.Word == "struct" {
		w.put(t.Name)
	}
	for range t.Stars {
		w.put("*")
	}
}

// variable adds a variable or field.
func (w *printer) variable(v api.Var) {
	w.typeName(v.Type)
	w.put(v.Name)
	for _, n := range v.Dims {
		w.put("[")
		w.number(n)
		w.put("]")
	}
	if len(v.Init) > 0 {
		w.put("=")
		w.initializer(v)
	}
	w.put(";")
}

// initializer adds what stands behind the = of a variable.
func (w *printer) initializer(v api.Var) {
	if v.Brace {
		w.put("{")
	}
	for k, x := range v.Init {
		w.comma(k)
		w.expr(x)
	}
	if v.Brace {
		w.put("}")
	}
}
