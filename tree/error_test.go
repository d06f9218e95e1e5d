package tree_test

import (
	"reflect"
	"strings"
	"testing"

	"rushlight/api"
	"rushlight/tree"
)

// fails reports as a fault a text that does not have this error at this position, and nothing beside them.
func fails(t *testing.T, s string, line, col int, want api.Errno) {
	t.Helper()
	p, pos, e := tree.Read(s)
	if !reflect.DeepEqual(p, api.Program{}) || pos != (api.Pos{Line: line, Col: col}) || e != want {
		t.Errorf("%.80q: %v at %v, not %v at %d:%d", s, e, pos, want, line, col)
	}
}

// Promise 9.1: the lexer's errors come ahead of all others.
func TestLexErrors(t *testing.T) {
	fails(t, "int main() { return 1 $ 2; }", 1, 23, api.ErrForm)
	fails(t, "int int\n @", 2, 2, api.ErrForm)
	fails(t, ") 4294967296", 1, 3, api.ErrRange)
	fails(t, ")\n"+strings.Repeat("a", 32), 2, 1, api.ErrLong)
	fails(t, "int /*", 1, 5, api.ErrForm)
	fails(t, strings.Repeat(")", api.MaxText+1), 1, 1, api.ErrLong)
	fails(t, strings.Repeat(")", api.MaxText), 1, 1, api.ErrForm)
}

// Promise 9.1: the first token that cannot follow. It stands behind a $.
func TestForm(t *testing.T) {
	for _, s := range []string{
		"int $;", "int $int", "int $5", "int $struct", "int *$;", "int *$int", "int a$ b", "int a$,", "int a$)", "int a$*", "int a[$]", "int a[$b]", "int a[$-1]", "int a[1$+1]", "int a[1]$(", "int a[1]$ b", "int a[1$;",
		"struct $;", "struct $int", "struct ${", "struct s$;", "struct s$(", "struct s$}", "struct s *${", "struct s{$;", "struct s{int $;", "struct s{int a$=", "struct s{int a$,", "struct s{int a$(", "struct s{int a;$;", "struct s{}$int", "struct s{} $a", "struct s{struct t$ {",
		"int a=$;", "int a=$}", "int a={$}", "int a={1,$}", "int a={1$;", "int a={$;", "int a={${", "int a=1$,", "int a=1$}", "int a={1}$,", "int a={1}$+", "int a=1$ b", "int a=$int",
		"int f($", "int f($,", "int f($1", "int f($a", "int f(int$)", "int f(int$,", "int f(int a$ b", "int f(int a$;", "int f(int a$[", "int f(int a,$)", "int f(int a,$a", "int f(void$,", "int f(void$;", "int f(int a, void$)", "int f()$;", "int f()$=", "int f()$int", "int f()$(",
		"int f(){$", "int f(){$)", "int f(){$]", "int f(){$,", "int f(){$else", "int f(){$case", "int f(){$default", "int f(){$=", "int f(){$+", "int f(){$:", "int f(){$.", "int f(){a $b", "int f(){a$}", "int f(){a$,", "int f(){a$)", "int f(){a;$)", "int f(){1$ 2", "int f(){1$(", "int f(){(a)$(", "int f(){f()$(",
		"int f(){int a$,", "int f(){int a$(", "int f(){struct s$ {", "int f(){struct s$;", "int f(){int$;", "int f(){int a=$;",
		"int f(){if$ a", "int f(){if($)", "int f(){if(a$;", "int f(){if(a)$}", "int f(){if(a)$else", "int f(){if(a);else$}", "int f(){if(a);else;$else", "int f(){if(a$,", "int f(){if($int", "int f(){if(a)b$else",
		"int f(){while$ a", "int f(){while($)", "int f(){while(a)$}", "int f(){do$}", "int f(){do;$;", "int f(){do a$ while", "int f(){do;while$;", "int f(){do;while($)", "int f(){do;while(a)$}", "int f(){do{}while(a)$ b",
		"int f(){for$;", "int f(){for($)", "int f(){for(;$)", "int f(){for(;;$;", "int f(){for(;;)$}", "int f(){for(a$)", "int f(){for($int", "int f(){for(a;b$)", "int f(){for(a;b;c$;", "int f(){for(a$,",
		"int f(){switch$ a", "int f(){switch($)", "int f(){switch(a)$;", "int f(){switch(a)$ case", "int f(){switch(a){$a", "int f(){switch(a){$;", "int f(){switch(a){$else", "int f(){switch(a){case$ a", "int f(){switch(a){case$:", "int f(){switch(a){case$ +", "int f(){switch(a){case -$-", "int f(){switch(a){case -$:", "int f(){switch(a){case 1$;", "int f(){switch(a){case 1$+", "int f(){switch(a){default$;", "int f(){switch(a){default$ 1", "int f(){switch(a){case 1:int$ case", "int f(){switch(a){case$(",
		"int f(){return$ int", "int f(){return$}", "int f(){return a$}", "int f(){break$ 1", "int f(){break$}", "int f(){continue$ a", "int f(){{$)", "int f(){{}$)",
		"int f(){-$;", "int f(){-$)", "int f(){a+$;", "int f(){a+$/", "int f(){a*$]", "int f(){a?$:", "int f(){a?b$;", "int f(){a?b:$;", "int f(){a?b:c$:", "int f(){a=$;", "int f(){a=$=", "int f(){a+=$)", "int f(){++$;", "int f(){a++$ b", "int f(){a[$]", "int f(){a[1$;", "int f(){a[1$,", "int f(){a.$1", "int f(){a.$int", "int f(){a->$(", "int f(){a.$in", "int f(){a.b$ c",
		"int f(){f($;", "int f(){f(a$;", "int f(){f(a,$)", "int f(){f($,", "int f(){f(a$ b", "int f(){f($int", "int f(){in$;", "int f(){in($a", "int f(){in()$(", "int f(){out$;", "int f(){out($)", "int f(){out(a$,", "int f(){out(a)$ b", "int f(){($)", "int f(){(a$;", "int f(){(a$,", "int f(){($int", "int f(){(a)$ b",
		"int f(){sizeof$ a", "int f(){sizeof$ int", "int f(){sizeof($a", "int f(){sizeof($)", "int f(){sizeof(int$[", "int f(){sizeof(int$ a", "int f(){sizeof(struct$)", "int f(){sizeof(int)$[", "int f(){sizeof(int)$.", "int f(){sizeof(int)$++", "int f(){sizeof(int)$ a", "int f(){sizeof(int*)$->",
	} {
		ahead, behind, _ := strings.Cut(s, "$")
		behind = strings.TrimLeft(behind, " ")
		fails(t, ahead+"\n"+behind, 2, 1, api.ErrForm)
		if behind != "" {
			fails(t, ahead+"\n\n "+behind+" int", 3, 2, api.ErrForm)
		}
		fails(t, ahead+"\n ", 2, 2, api.ErrForm) // more is required
	}
}

// Promise 9.1: what cannot stand at the top, by itself or behind a whole program.
func TestFormAtTheTop(t *testing.T) {
	for _, s := range strings.Fields("; } { ( ) [ * = , 1 a 'a' return if else while case sizeof in out break + -> ...") {
		for _, ahead := range []string{"", "int a;", "int f(){}", "struct s{};", "struct s{}; struct s a; int f(){}"} {
			fails(t, ahead+"\n\t"+s, 2, 2, api.ErrForm)
			fails(t, ahead+s+" int b;", 1, len(ahead)+1, api.ErrForm)
		}
	}
}

// Promise 9.1: no part of an erroneous text is returned, wherever the error is.
func TestNothingBesideErrors(t *testing.T) {
	const good = "struct s{int a;};int g;int f(){return 1;}"
	fails(t, good+")", 1, len(good)+1, api.ErrForm)
	fails(t, good+"int", 1, len(good)+4, api.ErrForm)
	fails(t, good+"int a", 1, len(good)+6, api.ErrForm)
	fails(t, good+"int a // ;", 1, len(good)+11, api.ErrForm)
}

// Promises 9.2: a tree that no text has is printed and made plain all the same, without a panic.
func TestMalformedTrees(t *testing.T) {
	for kind := -1; kind < 15; kind++ {
		x := api.Expr{Kind: kind}
		s := api.Stmt{Kind: kind}
		full := api.Stmt{Kind: kind, A: exprs(x, x), B: exprs(x), C: exprs(x), Var: []api.Var{{}, {}}, Body: stmts(s), Else: stmts(s), Cases: []api.Case{{}}}
		p := api.Program{Structs: []api.Struct{{}}, Globals: []api.Var{{Init: exprs(x, op(kind, "", x, x, x, x))}}, Funcs: []api.Func{{Params: []api.Var{{}}, Body: stmts(s, full)}}}
		p.Globals[0].Type.Stars = -5
		tree.Print(p)
		if !reflect.DeepEqual(tree.Plain(p), p) {
			t.Errorf("kind %d: %v", kind, tree.Plain(p))
		}
	}
}
