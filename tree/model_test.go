package tree_test

import (
	"reflect"
	"slices"
	"strconv"
	"strings"
	"testing"

	"rushlight/api"
	"rushlight/lex"
	"rushlight/tree"
)

// dice is a sequence of numbers that is the same each time.
type dice uint64

// roll is the next number below n.
func (d *dice) roll(n int) int {
	*d = *d*6364136223846793005 + 1442695040888963407
	return int(uint64(*d)>>33) % n
}

// maker makes programs, ahead of any text.
type maker struct {
	dice
	fuel int
}

// pick is one of some words.
func (m *maker) pick(words string) string {
	l := strings.Fields(words)
	return l[m.roll(len(l))]
}

// name is a name.
func (m *maker) name() string { return m.pick("a b c x1 main _ intx") }

// number is a number.
func (m *maker) number() uint32 {
	return []uint32{0, 1, 2, 10, 97, 1<<31 - 1, 1 << 31, 1<<32 - 1}[m.roll(8)]
}

// typeName is the name of a type.
func (m *maker) typeName() api.TypeName {
	t := api.TypeName{Word: m.pick("int int char void struct"), Stars: max(0, m.roll(5)-2)}
	if t.Word == "struct" {
		t.Name = m.name()
	}
	return t
}

// some is up to n parts.
func some[T any](m *maker, n int, f func() T) []T {
	var l []T
	for range m.roll(n + 1) {
		l = append(l, f())
	}
	return l
}

// param is a parameter.
func (m *maker) param() api.Var { return api.Var{Type: m.typeName(), Name: m.name()} }

// field is a field.
func (m *maker) field() api.Var {
	v := m.param()
	v.Dims = some(m, 2, m.number)
	return v
}

// variable is a variable.
func (m *maker) variable() api.Var {
	v := m.field()
	switch m.roll(3) {
	case 0:
		v.Init = []api.Expr{m.expr()}
	case 1:
		v.Brace = true
		v.Init = append(some(m, 3, m.expr), m.expr())
	}
	return v
}

// program is a program.
func (m *maker) program() api.Program {
	return api.Program{
		Structs: some(m, 2, func() api.Struct { return api.Struct{Name: m.name(), Fields: some(m, 3, m.field)} }),
		Globals: some(m, 2, m.variable),
		Funcs: some(m, 2, func() api.Func {
			return api.Func{Ret: m.typeName(), Name: m.name(), Params: some(m, 3, m.param), Body: some(m, 4, m.stmt)}
		}),
	}
}

// stmt is a statement.
func (m *maker) stmt() api.Stmt {
	if m.fuel--; m.fuel < 0 {
		return api.Stmt{Kind: api.StEmpty}
	}
	maybe := func() []api.Expr { return some(m, 1, m.expr) }
	one := func() []api.Expr { return []api.Expr{m.expr()} }
	body := func() []api.Stmt { return some(m, 2, m.stmt) }
	s := api.Stmt{Kind: 1 + m.roll(12)}
	switch s.Kind {
	case api.StExpr:
		s.A = one()
	case api.StVar:
		s.Var = []api.Var{m.variable()}
	case api.StIf:
		s.A, s.Body, s.Else = one(), body(), body()
	case api.StWhile, api.StDo:
		s.A, s.Body = one(), body()
	case api.StFor:
		s.A, s.B, s.C, s.Body = maybe(), maybe(), maybe(), body()
	case api.StSwitch:
		s.A = one()
		s.Cases = some(m, 3, func() api.Case {
			if m.roll(3) == 0 {
				return api.Case{Default: true, Body: body()}
			}
			return api.Case{Num: m.number(), Body: body()}
		})
	case api.StReturn:
		s.A = maybe()
	case api.StBlock:
		s.Body = body()
	}
	return s
}

// expr is an expression.
func (m *maker) expr() api.Expr {
	if m.fuel--; m.fuel < 0 {
		return num(m.number())
	}
	x := api.Expr{Kind: 1 + m.roll(12)}
	kids := func(n int) {
		for range n {
			x.Kids = append(x.Kids, m.expr())
		}
	}
	switch x.Kind {
	case api.ExNum:
		x.Num = m.number()
	case api.ExName:
		x.Name = m.name()
	case api.ExUnary:
		x.Op = m.pick("- ~ ! * &")
		kids(1)
	case api.ExBinary:
		x.Op = m.pick("|| && | ^ & == != < > <= >= << >> + - * / %")
		kids(2)
	case api.ExAssign:
		x.Op = m.pick("= += -= *= /= %= &= |= ^= <<= >>=")
		kids(2)
	case api.ExCond:
		kids(3)
	case api.ExCall:
		m.call(&x, kids)
	case api.ExIndex:
		kids(2)
	case api.ExMember:
		x.Op, x.Name = m.pick(". ->"), m.name()
		kids(1)
	case api.ExPre, api.ExPost:
		x.Op = m.pick("++ --")
		kids(1)
	case api.ExSize:
		x.Type = m.typeName()
	}
	if level(x) == postLevel && x.Kids[0].Kind == api.ExSize && m.roll(8) > 0 { // see onSize
		x.Kids[0] = name(m.name())
	}
	return x
}

// call makes a call of x.
func (m *maker) call(x *api.Expr, kids func(n int)) {
	switch m.roll(3) {
	case 0:
		x.Name = "in"
	case 1:
		x.Name = "out"
		kids(1)
	default:
		x.Name = m.name()
		kids(m.roll(4))
	}
}

// writer writes programs as tokens. What it writes has the numbers of tokens as positions.
type writer struct {
	*dice           // nil: the printed form, else any text of the program
	tokens []string // those written
}

// put adds tokens.
func (w *writer) put(l ...string) { w.tokens = append(w.tokens, l...) }

// here is the position of the next token.
func (w *writer) here() api.Pos { return api.Pos{Line: len(w.tokens)} }

// maybe is true at times; in the printed form never.
func (w *writer) maybe(of int) bool { return w.dice != nil && w.roll(of) == 0 }

// number adds a number.
func (w *writer) number(n uint32) {
	text := strconv.FormatUint(uint64(n), 10)
	if w.maybe(3) {
		text = "0x" + strconv.FormatUint(uint64(n), 16)
	} else if n == 97 && w.maybe(2) {
		text = "'a'"
	} else if n == 10 && w.maybe(2) {
		text = `'\n'`
	}
	w.put(text)
}

// typeName adds the name of a type.
func (w *writer) typeName(t api.TypeName) {
	w.put(strings.Fields(t.Word + " " + t.Name + strings.Repeat(" *", t.Stars))...)
}

// head adds a type and a name.
func (w *writer) head(v *api.Var) {
	v.Pos = w.here()
	w.typeName(v.Type)
	w.put(v.Name)
}

// variable adds a variable or field.
func (w *writer) variable(v *api.Var) {
	w.head(v)
	for _, n := range v.Dims {
		w.put("[")
		w.number(n)
		w.put("]")
	}
	if v.Init != nil {
		w.put("=")
		if v.Brace {
			w.put("{")
		}
		w.list(v.Init, 0)
		if v.Brace {
			w.put("}")
		}
	}
	w.put(";")
}

// list adds expressions of at least some level with commas between them.
func (w *writer) list(l []api.Expr, least int) {
	for k := range l {
		if k > 0 {
			w.put(",")
		}
		w.expr(&l[k], least)
	}
}

// program adds a program, and is the numbers of tokens behind which its items end.
func (w *writer) program(p *api.Program) (ends []int) {
	end := func() { ends = append(ends, len(w.tokens)) }
	for k := range p.Structs {
		s := &p.Structs[k]
		s.Pos = w.here()
		w.put("struct", s.Name, "{")
		for i := range s.Fields {
			w.variable(&s.Fields[i])
		}
		w.put("}", ";")
		end()
	}
	for k := range p.Globals {
		w.variable(&p.Globals[k])
		end()
	}
	for k := range p.Funcs {
		w.function(&p.Funcs[k])
		end()
	}
	return ends
}

// function adds a function.
func (w *writer) function(f *api.Func) {
	f.Pos = w.here()
	w.typeName(f.Ret)
	w.put(f.Name, "(")
	for k := range f.Params {
		if k > 0 {
			w.put(",")
		}
		w.head(&f.Params[k])
	}
	if len(f.Params) == 0 && w.maybe(2) {
		w.put("void")
	}
	w.put(")", "{")
	w.stmts(f.Body)
	w.put("}")
}

// stmts adds statements.
func (w *writer) stmts(l []api.Stmt) {
	for k := range l {
		w.stmt(&l[k])
	}
}

// body adds statements in braces, or one without them. What ends with an if without an else is written ahead of an else only in braces.
func (w *writer) body(l []api.Stmt, elseFollows bool) {
	if len(l) == 1 && l[0].Kind != api.StBlock && w.maybe(2) {
		switch l[0].Kind {
		case api.StIf, api.StWhile, api.StFor:
			if elseFollows {
				break
			}
			fallthrough
		default:
			w.stmt(&l[0])
			return
		}
	}
	w.put("{")
	w.stmts(l)
	w.put("}")
}

// parts adds, in parentheses behind a word, expressions or none, with semicolons between them.
func (w *writer) parts(word string, l ...[]api.Expr) {
	w.put(word, "(")
	for k, x := range l {
		if k > 0 {
			w.put(";")
		}
		w.list(x, 0)
	}
	w.put(")")
}

// stmt adds a statement.
func (w *writer) stmt(s *api.Stmt) {
	s.Pos = w.here()
	switch s.Kind {
	case api.StExpr:
		w.list(s.A, 0)
		w.put(";")
	case api.StVar:
		w.variable(&s.Var[0])
	case api.StIf:
		w.parts("if", s.A)
		some := len(s.Else) > 0 || w.maybe(3)
		w.body(s.Body, some)
		if some {
			w.put("else")
			// an else may follow this if only where the enclosing one has written braces around it
			w.body(s.Else, false)
		}
	case api.StWhile:
		w.parts("while", s.A)
		w.body(s.Body, false)
	case api.StDo:
		w.put("do")
		w.body(s.Body, false)
		w.parts("while", s.A)
		w.put(";")
	case api.StFor:
		w.parts("for", s.A, s.B, s.C)
		w.body(s.Body, false)
	case api.StSwitch:
		w.parts("switch", s.A)
		w.cases(s.Cases)
	case api.StReturn:
		w.put("return")
		w.list(s.A, 0)
		w.put(";")
	case api.StBlock:
		w.put("{")
		w.stmts(s.Body)
		w.put("}")
	default:
		w.put(strings.Fields(map[int]string{api.StBreak: "break ;", api.StContinue: "continue ;", api.StEmpty: ";"}[s.Kind])...)
	}
}

// cases adds the cases of a switch.
func (w *writer) cases(l []api.Case) {
	w.put("{")
	for k := range l {
		x := &l[k]
		x.Pos = w.here()
		switch {
		case x.Default:
			w.put("default")
		case w.maybe(2):
			w.put("case", "-")
			w.number(-x.Num)
		default:
			w.put("case")
			w.number(x.Num)
		}
		w.put(":")
		w.stmts(x.Body)
	}
	w.put("}")
}

// The levels of expressions, from those that bind least on; those between two operands lie between condLevel and unaryLevel.
const (
	assignLevel = 0
	condLevel   = 1
	unaryLevel  = 20
	postLevel   = 21
	primeLevel  = 22
)

// level is that of an expression.
func level(x api.Expr) int {
	switch x.Kind {
	case api.ExAssign:
		return assignLevel
	case api.ExCond:
		return condLevel
	case api.ExBinary:
		for k, l := range []string{"||", "&&", "|", "^", "&", "== !=", "< > <= >=", "<< >>", "+ -", "* / %"} {
			if slices.Contains(strings.Fields(l), x.Op) {
				return condLevel + 1 + k
			}
		}
	case api.ExUnary, api.ExPre, api.ExSize:
		return unaryLevel
	case api.ExIndex, api.ExMember, api.ExPost:
		return postLevel
	}
	return primeLevel
}

// expr adds an expression, in parentheses if it binds less than is asked for.
func (w *writer) expr(x *api.Expr, least int) {
	wrap := level(*x) < least || w.maybe(8)
	if w.dice == nil { // the printed form: all operands but a few are in parentheses
		atom := slices.Contains([]int{api.ExNum, api.ExName, api.ExCall, api.ExIndex, api.ExMember, api.ExSize}, x.Kind)
		wrap = least > 0 && !atom
	}
	if wrap {
		w.put("(")
		defer w.put(")")
	}
	if w.dice == nil {
		w.form(x, 1, 1, 1)
		return
	}
	l := level(*x)
	switch x.Kind {
	case api.ExAssign:
		w.form(x, condLevel, assignLevel)
	case api.ExCond:
		w.form(x, condLevel+1, assignLevel, condLevel)
	case api.ExBinary:
		w.form(x, l, l+1)
	case api.ExUnary, api.ExPre:
		w.form(x, unaryLevel)
	default:
		w.form(x, postLevel, assignLevel)
	}
}

// form adds an expression whose operands have at least these levels.
func (w *writer) form(x *api.Expr, least ...int) {
	kid := func(k int) { w.expr(&x.Kids[k], least[k]) }
	x.Pos = w.here()
	switch x.Kind {
	case api.ExNum:
		w.number(x.Num)
	case api.ExName:
		w.put(x.Name)
	case api.ExUnary, api.ExPre:
		w.put(x.Op)
		kid(0)
	case api.ExBinary, api.ExAssign, api.ExPost, api.ExMember:
		kid(0)
		x.Pos = w.here()
		w.put(strings.Fields(x.Op + " " + x.Name)...)
		if len(x.Kids) > 1 {
			kid(1)
		}
	case api.ExCond:
		kid(0)
		x.Pos = w.here()
		w.put("?")
		kid(1)
		w.put(":")
		kid(2)
	case api.ExCall:
		w.put(x.Name, "(")
		w.list(x.Kids, least[len(least)-1])
		w.put(")")
	case api.ExIndex:
		kid(0)
		x.Pos = w.here()
		w.put("[")
		kid(1)
		w.put("]")
	case api.ExSize:
		w.put("sizeof", "(")
		w.typeName(x.Type)
		w.put(")")
	}
}

// text is tokens with something between them, and the positions of all.
func (d *dice) text(l []string) (string, []api.Pos) {
	var b strings.Builder
	var at []api.Pos
	pos := api.Pos{Line: 1, Col: 1}
	for _, s := range l {
		at = append(at, pos)
		b.WriteString(s)
		pos.Col += len(s)
		switch d.roll(6) {
		case 0:
			b.WriteString(" \n")
			pos = api.Pos{Line: pos.Line + 1, Col: 1}
		case 1:
			b.WriteString(" /**/")
			pos.Col += 5
		case 2:
			b.WriteString(" // ; }\n\t")
			pos = api.Pos{Line: pos.Line + 1, Col: 2}
		default:
			b.WriteString(" ")
			pos.Col++
		}
	}
	return b.String(), append(at, pos)
}

// renumber makes positions of the numbers of tokens that stand as positions in v.
func renumber(v reflect.Value, at []api.Pos) {
	if pos, is := v.Interface().(api.Pos); is {
		v.Set(reflect.ValueOf(at[pos.Line]))
		return
	}
	switch v.Kind() {
	case reflect.Struct:
		for k := range v.NumField() {
			renumber(v.Field(k), at)
		}
	case reflect.Slice:
		for k := range v.Len() {
			renumber(v.Index(k), at)
		}
	}
}

// Promise 9.1: programs that were written as texts are read again as they were, with the positions of their tokens. Promise 9.3: cut off they are not.
func TestModel(t *testing.T) {
	for seed := range 4000 {
		m := &maker{dice: dice(seed), fuel: 10 + seed%50}
		want := m.program()
		plain := tree.Plain(want)
		w := &writer{dice: &m.dice}
		ends := w.program(&want)
		s, at := m.text(w.tokens)
		renumber(reflect.ValueOf(&want).Elem(), at)
		p, pos, e := tree.Read(s)
		if e != api.OK || pos != at[len(at)-1] || !reflect.DeepEqual(p, want) {
			t.Fatalf("%s\n%v at %v:\n%v, not\n%v", s, e, pos, p, want)
		}
		if !reflect.DeepEqual(tree.Plain(p), plain) {
			t.Fatalf("%s\n%v, not\n%v", s, tree.Plain(p), plain)
		}
		k := m.roll(len(w.tokens) + 1)
		cut, at := m.text(w.tokens[:k])
		if k > 0 && !slices.Contains(ends, k) {
			want = api.Program{}
			if p, pos, e := tree.Read(cut); e != api.ErrForm || pos != at[k] || !reflect.DeepEqual(p, want) {
				t.Fatalf("%s\n%v at %v", cut, e, pos)
			}
		} else if _, _, e := tree.Read(cut); e != api.OK {
			t.Fatalf("%s\n%v", cut, e)
		}
	}
}

// onSize reports whether something stands behind a sizeof in v: printed, it stands there without parentheses, which the grammar has not.
func onSize(v reflect.Value) bool {
	if x, is := v.Interface().(api.Expr); is && level(x) == postLevel && x.Kids[0].Kind == api.ExSize {
		return true
	}
	for k := range v.NumField() {
		if l := v.Field(k); l.Kind() == reflect.Slice && l.Type().Elem().Kind() == reflect.Struct {
			for i := range l.Len() {
				if onSize(l.Index(i)) {
					return true
				}
			}
		}
	}
	return false
}

// Promises 9.2 and 9.3: the printed form of any program, and that it is read as the same one.
func TestModelOfPrint(t *testing.T) {
	skipped := 0
	for seed := range 4000 {
		m := &maker{dice: dice(seed), fuel: 10 + seed%50}
		p := m.program()
		plain := tree.Plain(p)
		w := &writer{}
		w.program(&p)
		want := strings.Join(w.tokens, " ")
		if got := tree.Print(plain); got != want {
			t.Fatalf("%s\nnot\n%s", got, want)
		}
		if onSize(reflect.ValueOf(plain)) {
			skipped++
			continue
		}
		back, pos, e := tree.Read(want)
		if e != api.OK || !reflect.DeepEqual(tree.Plain(back), plain) {
			t.Fatalf("%s\n%v at %v", want, e, pos)
		}
		if l, _, _ := lex.Lex(want); lex.Text(l) != want {
			t.Fatalf("%s", want)
		}
	}
	if skipped > 400 {
		t.Errorf("%d of 4000 programs were skipped", skipped)
	}
}
