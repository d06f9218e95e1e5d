package tree_test

import (
	"strings"
	"testing"

	"rushlight/api"
	"rushlight/tree"
)

// Promise 9.1: how deep each form can be nested in itself.
func TestDepth(t *testing.T) {
	for _, x := range []struct {
		head, open, core, close, tail string
		around, each                  int // how many parts whose nesting is limited the text without links has in one another; how many a link adds
	}{
		{"int a=", "- ", "1", "", ";", 2, 1},
		{"int a=", "!", "b", "", ";", 2, 1},
		{"int a=", "++", "b", "", ";", 2, 1},
		{"int a=", "(", "1", ")", ";", 2, 2},
		{"int a=", "b=", "1", "", ";", 2, 1},
		{"int a=", "1?", "1", ":1", ";", 2, 1},
		{"int a=", "1?1:", "1", "", ";", 2, 1},
		{"int a=", "f(", "1", ")", ";", 2, 2},
		{"int a=", "f(1,", "1", ")", ";", 2, 2},
		{"int a=", "out(", "1", ")", ";", 2, 2},
		{"int a=", "b[", "1", "]", ";", 2, 2},
		{"int a=", "1+(", "1", ")", ";", 2, 2},
		{"int a={", "- ", "1", "", "};", 2, 1},
		{"int a={1,", "- ", "1", "", "};", 2, 1},
		{"int f(){int a=", "- ", "1", "", ";}", 3, 1},
		{"int f(){", "- ", "1", "", ";}", 3, 1},
		{"int f(){return ", "- ", "1", "", ";}", 3, 1},
		{"int f(){if(", "- ", "1", "", ");}", 3, 1},
		{"int f(){for(;;", "- ", "1", "", ");}", 3, 1},
		{"int f(){", "{", ";", "}", "}", 1, 1},
		{"int f(){", "{", "", "}", "}", 0, 1},
		{"int f(){", "{", "int a;", "}", "}", 1, 1},
		{"int f(){", "{", "a;", "}", "}", 3, 1},
		{"int f(){", "while(1)", ";", "", "}", 1, 1},
		{"int f(){", "while(1){", ";", "}", "}", 1, 2},
		{"int f(){", "if(1)", ";", "", "}", 1, 1},
		{"int f(){", "if(1);else ", ";", "", "}", 1, 1},
		{"int f(){", "do ", ";", "while(1);", "}", 1, 1},
		{"int f(){", "for(;;)", ";", "", "}", 1, 1},
		{"int f(){", "switch(1){case 1:", ";", "}", "}", 1, 1},
		{"int f(){", "switch(1){default:", "break;", "}", "}", 1, 1},
	} {
		for n := range 220 {
			s := x.head + strings.Repeat(x.open, n) + x.core + strings.Repeat(x.close, n) + x.tail
			want := api.OK
			// the expressions in the heads of the innermost statements are two parts deeper than what stands beside them
			if deepest := x.around + n*x.each; deepest > tree.MaxDepth {
				want = api.ErrLong
			} else if strings.Contains(x.open+x.close, "(1)") && n*x.each+2-(x.each-1) > tree.MaxDepth {
				want = api.ErrLong
			}
			if p, pos, e := tree.Read(s); e != want || e != api.OK && len(p.Globals)+len(p.Funcs) > 0 {
				t.Fatalf("%s: %d of %s: %v at %v, not %v", x.head, n, x.open, e, pos, want)
			}
		}
	}
}

// Promise 9.1: the token at which the nesting is too deep.
func TestPlaceOfDepth(t *testing.T) {
	minus := func(n int) string { return strings.Repeat("- ", n) }
	fails(t, "int a= "+minus(199)+"1;", 1, 8+2*199, api.ErrLong) // within an assign and 199 unaries
	fails(t, "int a= "+minus(300)+"1;", 1, 8+2*199, api.ErrLong)
	fails(t, "int f(){ "+minus(198)+"b;}", 1, 10+2*198, api.ErrLong)
	fails(t, "int f(){"+strings.Repeat("{", 200)+";", 1, 9+200, api.ErrLong)
	fails(t, "int f(){"+strings.Repeat("{", 201), 1, 9+200, api.ErrLong)
	fails(t, "int f(){"+strings.Repeat("{", 199)+"b", 1, 9+199, api.ErrLong) // the statement is within 199, its expression within 200
	fails(t, "int f(){"+strings.Repeat("{", 198)+"b;", 1, 9+198, api.ErrLong)
	fails(t, "int a="+strings.Repeat("(", 101)+"1", 1, 7+100, api.ErrLong)
	fails(t, "int a="+strings.Repeat("b=", 199)+"1;", 1, 7+2*199, api.ErrLong)
	fails(t, "int a="+strings.Repeat("b=", 200)+"1;", 1, 7+2*199, api.ErrLong)
	fails(t, "int a="+strings.Repeat("1?1:", 199)+"1;", 1, 7+4*198+2, api.ErrLong) // the cond is within 198, the assign behind its ? within 199
}

// Promise 9.1: whichever error comes first is returned; a token that cannot follow is no token at which something is nested.
func TestDepthAndForm(t *testing.T) {
	minus := strings.Repeat("- ", 199)
	fails(t, "int a= "+minus+";", 1, 8+2*199, api.ErrForm)
	fails(t, "int a= "+minus, 1, 8+2*199, api.ErrForm)
	fails(t, "int a= "+minus+"int", 1, 8+2*199, api.ErrForm)
	fails(t, "int f(){"+strings.Repeat("{", 200)+")", 1, 9+200, api.ErrForm)
	fails(t, "int f(){"+strings.Repeat("{", 200), 1, 9+200, api.ErrForm)
	fails(t, "int f(){"+strings.Repeat("{", 200)+"else", 1, 9+200, api.ErrForm)
	fails(t, "int a=);int b= "+minus+"1;", 1, 7, api.ErrForm)
	fails(t, "int b= "+minus+"1;int a=);", 1, 8+2*199, api.ErrLong)
	fails(t, "int b= "+strings.Repeat("- ", 150)+");"+strings.Repeat("(", 300), 1, 8+300, api.ErrForm)
}

// Promise 9.1: what stands beside something is not nested in it.
func TestWide(t *testing.T) {
	for _, s := range []string{
		"int a=1" + strings.Repeat("+1", 30000) + ";",
		"int a=1" + strings.Repeat("||-1*b", 10000) + ";",
		"int a=b" + strings.Repeat("[1]", 20000) + ";",
		"int a=b" + strings.Repeat(".c", 30000) + ";",
		"int a=b" + strings.Repeat("++", 30000) + ";",
		"int a={1" + strings.Repeat(",1", 30000) + "};",
		"int a=f(1" + strings.Repeat(",-1", 20000) + ");",
		"int " + strings.Repeat("*", 60000) + "a;",
		"int a" + strings.Repeat("[1]", 20000) + ";",
		"int f(){" + strings.Repeat(";", 60000) + "}",
		"int f(){" + strings.Repeat("{}", 30000) + "}",
		"int f(){" + strings.Repeat("a=b?c:d;", 8000) + "}",
		"int f(){" + strings.Repeat("if(a);else b;", 5000) + "}",
		"int f(){switch(1){" + strings.Repeat("case 1:", 9000) + "}}",
		"int f(int a" + strings.Repeat(",int a", 10000) + "){}",
		strings.Repeat("int a;", 10000),
		strings.Repeat("int f(){}", 7000),
		strings.Repeat("struct s{};", 5000),
		"int f(){" + strings.Repeat("{", 200) + strings.Repeat("}", 200) + "a=b?c:-d;}",
	} {
		p := read(t, s)
		plain := tree.Plain(p)
		if tree.Print(p) != tree.Print(plain) {
			t.Errorf("%.40s", s)
		}
	}
	fails(t, "int a=1"+strings.Repeat("+1", 30000)+"+;", 1, 60009, api.ErrForm)
}
