package tree_test

import (
	"reflect"
	"strings"
	"testing"

	"rushlight/api"
	"rushlight/lex"
	"rushlight/tree"
)

// read is the tree of a text that must have one.
func read(t *testing.T, s string) api.Program {
	t.Helper()
	p, pos, e := tree.Read(s)
	if e != api.OK {
		t.Fatalf("%.200q: %v at %v", s, e, pos)
	}
	return p
}

// num is a number without a position.
func num(n uint32) api.Expr { return api.Expr{Kind: api.ExNum, Num: n} }

// name is a name without a position.
func name(s string) api.Expr { return api.Expr{Kind: api.ExName, Name: s} }

// op is an expression of an operator without a position.
func op(kind int, s string, kids ...api.Expr) api.Expr {
	return api.Expr{Kind: kind, Op: s, Kids: kids}
}

// call is a call without a position.
func call(s string, kids ...api.Expr) api.Expr {
	return api.Expr{Kind: api.ExCall, Name: s, Kids: kids}
}

// member is a field without a position.
func member(dot, s string, kid api.Expr) api.Expr {
	return api.Expr{Kind: api.ExMember, Op: dot, Name: s, Kids: []api.Expr{kid}}
}

// size is a sizeof without a position.
func size(word, s string, stars int) api.Expr {
	return api.Expr{Kind: api.ExSize, Type: api.TypeName{Word: word, Name: s, Stars: stars}}
}

// expression is the tree of an expression, without positions.
func expression(t *testing.T, s string) api.Expr {
	t.Helper()
	return statements(t, s+";")[0].A[0]
}

// statements is the trees of statements, without positions.
func statements(t *testing.T, s string) []api.Stmt {
	t.Helper()
	return tree.Plain(read(t, "int f(){"+s+"}")).Funcs[0].Body
}

// Promise 9.1: expressions of each form.
func TestExpressions(t *testing.T) {
	a, b, c, d := name("a"), name("b"), name("c"), name("d")
	for s, want := range map[string]api.Expr{
		"7":                   num(7),
		"0xff":                num(255),
		"'a'":                 num(97),
		"a":                   a,
		"(a)":                 a,
		"((7))":               num(7),
		"-a":                  op(api.ExUnary, "-", a),
		"~a":                  op(api.ExUnary, "~", a),
		"!a":                  op(api.ExUnary, "!", a),
		"*a":                  op(api.ExUnary, "*", a),
		"&a":                  op(api.ExUnary, "&", a),
		"++a":                 op(api.ExPre, "++", a),
		"--a":                 op(api.ExPre, "--", a),
		"a++":                 op(api.ExPost, "++", a),
		"a--":                 op(api.ExPost, "--", a),
		"-1":                  op(api.ExUnary, "-", num(1)),
		"- -1":                op(api.ExUnary, "-", op(api.ExUnary, "-", num(1))),
		"--1":                 op(api.ExPre, "--", num(1)),
		"!~-a":                op(api.ExUnary, "!", op(api.ExUnary, "~", op(api.ExUnary, "-", a))),
		"**a":                 op(api.ExUnary, "*", op(api.ExUnary, "*", a)),
		"& &a":                op(api.ExUnary, "&", op(api.ExUnary, "&", a)),
		"++*a":                op(api.ExPre, "++", op(api.ExUnary, "*", a)),
		"*++a":                op(api.ExUnary, "*", op(api.ExPre, "++", a)),
		"*a++":                op(api.ExUnary, "*", op(api.ExPost, "++", a)),
		"(*a)++":              op(api.ExPost, "++", op(api.ExUnary, "*", a)),
		"a++ ++":              op(api.ExPost, "++", op(api.ExPost, "++", a)),
		"a[b]":                op(api.ExIndex, "", a, b),
		"a[b][c]":             op(api.ExIndex, "", op(api.ExIndex, "", a, b), c),
		"a[b=c]":              op(api.ExIndex, "", a, op(api.ExAssign, "=", b, c)),
		"1[a]":                op(api.ExIndex, "", num(1), a),
		"a.b":                 member(".", "b", a),
		"a->b":                member("->", "b", a),
		"a.b->c":              member("->", "c", member(".", "b", a)),
		"-a.b":                op(api.ExUnary, "-", member(".", "b", a)),
		"(-a).b":              member(".", "b", op(api.ExUnary, "-", a)),
		"&a[b].c":             op(api.ExUnary, "&", member(".", "c", op(api.ExIndex, "", a, b))),
		"f()":                 call("f"),
		"f(a)":                call("f", a),
		"f(a,b)":              call("f", a, b),
		"f(a=b,c?d:1,(2))":    call("f", op(api.ExAssign, "=", a, b), op(api.ExCond, "", c, d, num(1)), num(2)),
		"f()[1]":              op(api.ExIndex, "", call("f"), num(1)),
		"f(a)->b++":           op(api.ExPost, "++", member("->", "b", call("f", a))),
		"in()":                call("in"),
		"out(a)":              call("out", a),
		"out(a=in())":         call("out", op(api.ExAssign, "=", a, call("in"))),
		"in().a":              member(".", "a", call("in")),
		"sizeof(int)":         size("int", "", 0),
		"sizeof(char*)":       size("char", "", 1),
		"sizeof(void**)":      size("void", "", 2),
		"sizeof(struct s)":    size("struct", "s", 0),
		"sizeof(struct s***)": size("struct", "s", 3),
		"-sizeof(int)":        op(api.ExUnary, "-", size("int", "", 0)),
		"sizeof(int)*a":       op(api.ExBinary, "*", size("int", "", 0), a),
		"(sizeof(int))[a]":    op(api.ExIndex, "", size("int", "", 0), a),
		"1+2*3":               op(api.ExBinary, "+", num(1), op(api.ExBinary, "*", num(2), num(3))),
		"(1+2)*3":             op(api.ExBinary, "*", op(api.ExBinary, "+", num(1), num(2)), num(3)),
		"a-b-c":               op(api.ExBinary, "-", op(api.ExBinary, "-", a, b), c),
		"a-(b-c)":             op(api.ExBinary, "-", a, op(api.ExBinary, "-", b, c)),
		"a*-b":                op(api.ExBinary, "*", a, op(api.ExUnary, "-", b)),
		"a- -b":               op(api.ExBinary, "-", a, op(api.ExUnary, "-", b)),
		"a&&b||c&&d":          op(api.ExBinary, "||", op(api.ExBinary, "&&", a, b), op(api.ExBinary, "&&", c, d)),
		"a=b=c":               op(api.ExAssign, "=", a, op(api.ExAssign, "=", b, c)),
		"(a=b)=c":             op(api.ExAssign, "=", op(api.ExAssign, "=", a, b), c),
		"a+b=c":               op(api.ExAssign, "=", op(api.ExBinary, "+", a, b), c),
		"a?b:c":               op(api.ExCond, "", a, b, c),
		"a?b:c?d:1":           op(api.ExCond, "", a, b, op(api.ExCond, "", c, d, num(1))),
		"a?b?c:d:1":           op(api.ExCond, "", a, op(api.ExCond, "", b, c, d), num(1)),
		"(a?b:c)?d:1":         op(api.ExCond, "", op(api.ExCond, "", a, b, c), d, num(1)),
		"a?b=c:d":             op(api.ExCond, "", a, op(api.ExAssign, "=", b, c), d),
		"a?b:c=d":             op(api.ExAssign, "=", op(api.ExCond, "", a, b, c), d),
		"a=b?c:d":             op(api.ExAssign, "=", a, op(api.ExCond, "", b, c, d)),
		"a||b?c:d":            op(api.ExCond, "", op(api.ExBinary, "||", a, b), c, d),
		"a?b:c||d":            op(api.ExCond, "", a, b, op(api.ExBinary, "||", c, d)),
	} {
		if got := expression(t, s); !reflect.DeepEqual(got, want) {
			t.Errorf("%s:\n%v, not\n%v", s, got, want)
		}
	}
}

// Promise 9.1: of any two operators between operands the one of higher precedence binds tighter, and of two of the same, the left one.
func TestPrecedence(t *testing.T) {
	levels := [][]string{{"||"}, {"&&"}, {"|"}, {"^"}, {"&"}, {"==", "!="}, {"<", ">", "<=", ">="}, {"<<", ">>"}, {"+", "-"}, {"*", "/", "%"}}
	a, b, c := name("a"), name("b"), name("c")
	for i, l := range levels {
		for _, x := range l {
			for j, m := range levels {
				for _, y := range m {
					want := op(api.ExBinary, y, op(api.ExBinary, x, a, b), c)
					if j > i {
						want = op(api.ExBinary, x, a, op(api.ExBinary, y, b, c))
					}
					if got := expression(t, "a "+x+" b "+y+" c"); !reflect.DeepEqual(got, want) {
						t.Errorf("%s %s: %v", x, y, got)
					}
				}
			}
		}
	}
}

// Promise 9.1: all assignments.
func TestAssignments(t *testing.T) {
	for _, s := range strings.Fields("= += -= *= /= %= &= |= ^= <<= >>=") {
		want := op(api.ExAssign, s, name("a"), op(api.ExAssign, "=", name("b"), name("c")))
		if got := expression(t, "a"+s+"b=c"); !reflect.DeepEqual(got, want) {
			t.Errorf("%s: %v", s, got)
		}
	}
}

// exprs is a list of expressions.
func exprs(l ...api.Expr) []api.Expr { return l }

// one is the statement of an expression.
func one(x api.Expr) api.Stmt { return api.Stmt{Kind: api.StExpr, A: exprs(x)} }

// stmts is a list of statements.
func stmts(l ...api.Stmt) []api.Stmt { return l }

// Promise 9.1: statements of each form.
func TestStatements(t *testing.T) {
	a, b, c := name("a"), name("b"), name("c")
	empty := api.Stmt{Kind: api.StEmpty}
	for s, want := range map[string][]api.Stmt{
		"":                        nil,
		";":                       {empty},
		"a;":                      {one(a)},
		"a;;b;":                   {one(a), empty, one(b)},
		"{}":                      {{Kind: api.StBlock}},
		"{a;{b;}}":                {{Kind: api.StBlock, Body: stmts(one(a), api.Stmt{Kind: api.StBlock, Body: stmts(one(b))})}},
		"return;":                 {{Kind: api.StReturn}},
		"return a;":               {{Kind: api.StReturn, A: exprs(a)}},
		"break;":                  {{Kind: api.StBreak}},
		"continue;":               {{Kind: api.StContinue}},
		"if(a)b;":                 {{Kind: api.StIf, A: exprs(a), Body: stmts(one(b))}},
		"if(a){b;}":               {{Kind: api.StIf, A: exprs(a), Body: stmts(one(b))}},
		"if(a){{b;}}":             {{Kind: api.StIf, A: exprs(a), Body: stmts(api.Stmt{Kind: api.StBlock, Body: stmts(one(b))})}},
		"if(a){}":                 {{Kind: api.StIf, A: exprs(a)}},
		"if(a);":                  {{Kind: api.StIf, A: exprs(a), Body: stmts(empty)}},
		"if(a)b;else c;":          {{Kind: api.StIf, A: exprs(a), Body: stmts(one(b)), Else: stmts(one(c))}},
		"if(a){}else{}":           {{Kind: api.StIf, A: exprs(a)}},
		"if(a);else;":             {{Kind: api.StIf, A: exprs(a), Body: stmts(empty), Else: stmts(empty)}},
		"if(a)if(b)1;else 2;":     {{Kind: api.StIf, A: exprs(a), Body: stmts(api.Stmt{Kind: api.StIf, A: exprs(b), Body: stmts(one(num(1))), Else: stmts(one(num(2)))})}},
		"if(a){if(b)1;}else 2;":   {{Kind: api.StIf, A: exprs(a), Body: stmts(api.Stmt{Kind: api.StIf, A: exprs(b), Body: stmts(one(num(1)))}), Else: stmts(one(num(2)))}},
		"if(a)1;else if(b)2;":     {{Kind: api.StIf, A: exprs(a), Body: stmts(one(num(1))), Else: stmts(api.Stmt{Kind: api.StIf, A: exprs(b), Body: stmts(one(num(2)))})}},
		"if(a)if(b);else;else c;": {{Kind: api.StIf, A: exprs(a), Body: stmts(api.Stmt{Kind: api.StIf, A: exprs(b), Body: stmts(empty), Else: stmts(empty)}), Else: stmts(one(c))}},
		"if(a)while(b)if(c);else;": {{Kind: api.StIf, A: exprs(a), Body: stmts(api.Stmt{Kind: api.StWhile, A: exprs(b),
			Body: stmts(api.Stmt{Kind: api.StIf, A: exprs(c), Body: stmts(empty), Else: stmts(empty)})})}},
		"while(a)b;":            {{Kind: api.StWhile, A: exprs(a), Body: stmts(one(b))}},
		"while(a=b){b;c;}":      {{Kind: api.StWhile, A: exprs(op(api.ExAssign, "=", a, b)), Body: stmts(one(b), one(c))}},
		"do a;while(b);":        {{Kind: api.StDo, A: exprs(b), Body: stmts(one(a))}},
		"do{a;}while(b);c;":     {{Kind: api.StDo, A: exprs(b), Body: stmts(one(a))}, one(c)},
		"do while(a);while(b);": {{Kind: api.StDo, A: exprs(b), Body: stmts(api.Stmt{Kind: api.StWhile, A: exprs(a), Body: stmts(empty)})}},
		"for(;;);":              {{Kind: api.StFor, Body: stmts(empty)}},
		"for(a;b;c){}":          {{Kind: api.StFor, A: exprs(a), B: exprs(b), C: exprs(c)}},
		"for(a;;)b;":            {{Kind: api.StFor, A: exprs(a), Body: stmts(one(b))}},
		"for(;a;)b;":            {{Kind: api.StFor, B: exprs(a), Body: stmts(one(b))}},
		"for(;;a)b;":            {{Kind: api.StFor, C: exprs(a), Body: stmts(one(b))}},
		"switch(a){}":           {{Kind: api.StSwitch, A: exprs(a)}},
		"switch(a){case 1:case 2:b;c;default:;}": {{Kind: api.StSwitch, A: exprs(a), Cases: []api.Case{
			{Num: 1}, {Num: 2, Body: stmts(one(b), one(c))}, {Default: true, Body: stmts(empty)}}}},
		"switch(a){default:case-1:case-0:case-4294967295:case 'a':case-0x80000000:}": {{Kind: api.StSwitch, A: exprs(a), Cases: []api.Case{
			{Default: true}, {Num: 1<<32 - 1}, {}, {Num: 1}, {Num: 97}, {Num: 1 << 31}}}},
		"switch(a){case 1:switch(b){case 1:a;default:b;}default:c;}": {{Kind: api.StSwitch, A: exprs(a), Cases: []api.Case{
			{Num: 1, Body: stmts(api.Stmt{Kind: api.StSwitch, A: exprs(b), Cases: []api.Case{{Num: 1, Body: stmts(one(a))}, {Default: true, Body: stmts(one(b))}}})},
			{Default: true, Body: stmts(one(c))}}}},
		"if(a)int b;": {{Kind: api.StIf, A: exprs(a), Body: stmts(api.Stmt{Kind: api.StVar, Var: []api.Var{{Type: api.TypeName{Word: "int"}, Name: "b"}}})}},
	} {
		if got := statements(t, s); !reflect.DeepEqual(got, want) {
			t.Errorf("%s:\n%v, not\n%v", s, got, want)
		}
	}
}

// Promise 9.1: variables of each form, at the top and as statements.
func TestVariables(t *testing.T) {
	for s, want := range map[string]api.Var{
		"int a;":             {Type: api.TypeName{Word: "int"}, Name: "a"},
		"char a;":            {Type: api.TypeName{Word: "char"}, Name: "a"},
		"void a;":            {Type: api.TypeName{Word: "void"}, Name: "a"},
		"struct s a;":        {Type: api.TypeName{Word: "struct", Name: "s"}, Name: "a"},
		"struct s*a;":        {Type: api.TypeName{Word: "struct", Name: "s", Stars: 1}, Name: "a"},
		"int***a;":           {Type: api.TypeName{Word: "int", Stars: 3}, Name: "a"},
		"int a[3];":          {Type: api.TypeName{Word: "int"}, Name: "a", Dims: []uint32{3}},
		"void*a[3][0][0xf];": {Type: api.TypeName{Word: "void", Stars: 1}, Name: "a", Dims: []uint32{3, 0, 15}},
		"int a[4294967295];": {Type: api.TypeName{Word: "int"}, Name: "a", Dims: []uint32{1<<32 - 1}},
		"int a=1;":           {Type: api.TypeName{Word: "int"}, Name: "a", Init: exprs(num(1))},
		"int a=b=1;":         {Type: api.TypeName{Word: "int"}, Name: "a", Init: exprs(op(api.ExAssign, "=", name("b"), num(1)))},
		"int a={1};":         {Type: api.TypeName{Word: "int"}, Name: "a", Init: exprs(num(1)), Brace: true},
		"int a[2]={1,b=2,3};": {Type: api.TypeName{Word: "int"}, Name: "a", Dims: []uint32{2},
			Init: exprs(num(1), op(api.ExAssign, "=", name("b"), num(2)), num(3)), Brace: true},
		"int a[2]=1;": {Type: api.TypeName{Word: "int"}, Name: "a", Dims: []uint32{2}, Init: exprs(num(1))},
	} {
		if got := tree.Plain(read(t, s)); !reflect.DeepEqual(got, api.Program{Globals: []api.Var{want}}) {
			t.Errorf("%s: %v", s, got)
		}
		if got := statements(t, s); !reflect.DeepEqual(got, stmts(api.Stmt{Kind: api.StVar, Var: []api.Var{want}})) {
			t.Errorf("%s: %v", s, got)
		}
	}
}

// Promise 9.1: structs, globals and functions, each in source order.
func TestPrograms(t *testing.T) {
	word := func(s string) api.TypeName { return api.TypeName{Word: s} }
	list := api.TypeName{Word: "struct", Name: "list", Stars: 1}
	for s, want := range map[string]api.Program{
		"":                     {},
		" /* nothing */ //":    {},
		"int f(){}":            {Funcs: []api.Func{{Ret: word("int"), Name: "f"}}},
		"void f(void){}":       {Funcs: []api.Func{{Ret: word("void"), Name: "f"}}},
		"void f(void a){}":     {Funcs: []api.Func{{Ret: word("void"), Name: "f", Params: []api.Var{{Type: word("void"), Name: "a"}}}}},
		"struct list f(){;}":   {Funcs: []api.Func{{Ret: api.TypeName{Word: "struct", Name: "list"}, Name: "f", Body: stmts(api.Stmt{Kind: api.StEmpty})}}},
		"struct s{};":          {Structs: []api.Struct{{Name: "s"}}},
		"struct s{int a[1];};": {Structs: []api.Struct{{Name: "s", Fields: []api.Var{{Type: word("int"), Name: "a", Dims: []uint32{1}}}}}},
		"int g;struct list{char c;struct list*next;int m[2][3];};struct list*f(struct list*l,char c,void**p){return l;}struct list h;int main(){}": {
			Structs: []api.Struct{{Name: "list", Fields: []api.Var{{Type: word("char"), Name: "c"}, {Type: list, Name: "next"}, {Type: word("int"), Name: "m", Dims: []uint32{2, 3}}}}},
			Globals: []api.Var{{Type: word("int"), Name: "g"}, {Type: api.TypeName{Word: "struct", Name: "list"}, Name: "h"}},
			Funcs: []api.Func{
				{Ret: list, Name: "f", Params: []api.Var{{Type: list, Name: "l"}, {Type: word("char"), Name: "c"}, {Type: api.TypeName{Word: "void", Stars: 2}, Name: "p"}},
					Body: stmts(api.Stmt{Kind: api.StReturn, A: exprs(name("l"))})},
				{Ret: word("int"), Name: "main"}},
		},
	} {
		if got := tree.Plain(read(t, s)); !reflect.DeepEqual(got, want) {
			t.Errorf("%s:\n%v, not\n%v", s, got, want)
		}
	}
}

// Promise 9.1: the end of the text is returned beside the tree.
func TestEnd(t *testing.T) {
	for s, want := range map[string]api.Pos{
		"": {Line: 1, Col: 1}, "\n\n ": {Line: 3, Col: 2}, "int a;": {Line: 1, Col: 7}, "int\na\n; // x": {Line: 3, Col: 7}, "int a; /*\n*/ ": {Line: 2, Col: 4},
	} {
		if _, pos, e := tree.Read(s); pos != want || e != api.OK {
			t.Errorf("%q: %v, %v", s, pos, e)
		}
	}
}

// places is the positions of an expression and its operands, operands first.
func places(x api.Expr) []api.Pos {
	var l []api.Pos
	for _, kid := range x.Kids {
		l = append(l, places(kid)...)
	}
	return append(l, x.Pos)
}

// Promise 9.1: where expressions stand. The line below each has a digit, in order, below the token whose position is returned.
func TestPlacesOfExpressions(t *testing.T) {
	for _, x := range [][2]string{
		{"a", "0"}, {"(a)", " 0"}, {"( ( 7 ) )", "    0"}, {"-a", "10"}, {"- ( a )", "1   0"}, {"~!a", "210"}, {"*&a", "210"}, {"++a", "1 0"}, {"a++", "01"}, {"(a)--", " 0 1"},
		{"a + b", "0 2 1"}, {"a*b+c*d", "0216354"}, {"(a+b)*c", " 021 43"}, {"a = b = c", "0 4 1 3 2"}, {"a <<= b", "0 2   1"}, {"a?b:c", "031 2"},
		{"a ? b : c ? d : e", "0 6 1   2 5 3   4"}, {"a[b]", "021"}, {"a [ (b) ] [c]", "0 2  1    43"}, {"a.b", "01"}, {"a . b", "0 1"}, {"a->b->c", "01  2"}, {"(a).b", " 0 1"},
		{"f()", "0"}, {"f ( a , b )", "2   0   1"}, {"(f)", " 0"}, {"( f(a) )", "  1 0"}, {"in()", "0"}, {"out(a)", "1   0"}, {"sizeof(int)", "0"}, {"(sizeof(int)) + 1", " 0            2 1"},
		{"-a++", "201"}, {"*a[b]", "3021"}, {"a = b ? c : d", "0 5 1 4 2   3"}, {"!a && b", "10 3  2"},
	} {
		p := read(t, "int f ( ) {\n"+x[0]+";}")
		var got []int
		for _, pos := range places(p.Funcs[0].Body[0].A[0]) {
			if pos.Line != 2 {
				t.Errorf("%s: %v", x[0], pos)
			}
			got = append(got, pos.Col-1)
		}
		var want []int
		for k := range len(strings.ReplaceAll(x[1], " ", "")) {
			want = append(want, strings.IndexByte(x[1], byte('0'+k)))
		}
		if !reflect.DeepEqual(got, want) {
			t.Errorf("%s: %v, not %v", x[0], got, want)
		}
	}
}

// Promise 9.1: where all else stands.
func TestPlaces(t *testing.T) {
	at := func(line, col int) api.Pos { return api.Pos{Line: line, Col: col} }
	p := read(t, "  struct s {\n int\n a; struct s *b;\n};\nstruct s *g = 0;\n char *f(int a,\nstruct s *b)\n{ int c = 1; {; } (c) = 2;\n switch (c) { case -\n1: default : break ; }\n if (a) b; else { continue; } }")
	var got []api.Pos
	for _, s := range p.Structs {
		got = append(got, s.Pos, s.Fields[0].Pos, s.Fields[1].Pos)
	}
	got = append(got, p.Globals[0].Pos, p.Globals[0].Init[0].Pos)
	f := p.Funcs[0]
	got = append(got, f.Pos, f.Params[0].Pos, f.Params[1].Pos)
	b := f.Body
	got = append(got, b[0].Pos, b[0].Var[0].Pos, b[1].Pos, b[1].Body[0].Pos, b[2].Pos, b[2].A[0].Pos)
	got = append(got, b[3].Pos, b[3].Cases[0].Pos, b[3].Cases[1].Pos, b[3].Cases[1].Body[0].Pos, b[4].Pos, b[4].Body[0].Pos, b[4].Else[0].Pos)
	want := []api.Pos{at(1, 3), at(2, 2), at(3, 5), at(5, 1), at(5, 15), at(6, 2), at(6, 10), at(7, 1),
		at(8, 3), at(8, 3), at(8, 14), at(8, 15), at(8, 19), at(8, 23), at(9, 2), at(9, 15), at(10, 4), at(10, 14), at(11, 2), at(11, 9), at(11, 19)}
	if !reflect.DeepEqual(got, want) {
		t.Errorf("%v, not\n%v", got, want)
	}
}

// Promise 9.2: Plain leaves nothing out but positions, and its argument as it is.
func TestPlain(t *testing.T) {
	const s = "struct s{int a[2];};int g[2]={1,2};int f(int a){int b=1;if(a){b;}else c;while(a)b;do a;while(b);for(a;b;c)d;switch(a){case 1:b;default:{c;}}return a[1].b->c+f(in(),sizeof(struct s*));}"
	spread := lexed(s, "\n")
	p, again := read(t, spread), read(t, spread)
	plain := tree.Plain(p)
	if !reflect.DeepEqual(p, again) {
		t.Errorf("Plain changed its argument")
	}
	if !reflect.DeepEqual(plain, tree.Plain(read(t, s))) || !reflect.DeepEqual(plain, tree.Plain(plain)) {
		t.Errorf("%v", plain)
	}
	if strings.Contains(describe(plain), "line") || !strings.Contains(describe(p), "line") {
		t.Errorf("positions: %s", describe(plain))
	}
	if tree.Print(plain) != tree.Print(p) {
		t.Errorf("%s", tree.Print(plain))
	}
	if got := tree.Plain(api.Program{}); !reflect.DeepEqual(got, api.Program{}) {
		t.Errorf("%v", got)
	}
	plain.Globals[0].Dims[0], plain.Globals[0].Init[0].Num, plain.Funcs[0].Body[0].Var[0].Name = 9, 9, "changed"
	if !reflect.DeepEqual(p, again) {
		t.Errorf("Plain shares memory with its argument")
	}
}

// lexed is the tokens of s with something between them.
func lexed(s, between string) string {
	l, _, _ := lex.Lex(s)
	var b strings.Builder
	for _, x := range l {
		b.WriteString(x.Text + between)
	}
	return b.String()
}

// describe tells, of each position in x that is not zero, the line.
func describe(x any) string {
	var b strings.Builder
	var walk func(v reflect.Value)
	walk = func(v reflect.Value) {
		if pos, is := v.Interface().(api.Pos); is {
			if pos != (api.Pos{}) {
				b.WriteString("line ")
			}
			return
		}
		switch v.Kind() {
		case reflect.Struct:
			for k := range v.NumField() {
				walk(v.Field(k))
			}
		case reflect.Slice:
			for k := range v.Len() {
				walk(v.Index(k))
			}
		}
	}
	walk(reflect.ValueOf(x))
	return b.String()
}
