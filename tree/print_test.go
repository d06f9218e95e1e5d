package tree_test

import (
	"strings"
	"testing"

	"rushlight/api"
	"rushlight/tree"
)

// Promise 9.2: the printed form of each part of a program.
func TestPrint(t *testing.T) {
	for s, want := range map[string]string{
		"":                                   "",
		"int main(){return 1+2*3;}":          "int main ( ) { return 1 + ( 2 * 3 ) ; }",
		"int f(void){}":                      "int f ( ) { }",
		"struct s{};":                        "struct s { } ;",
		"struct s{int a;struct s*b[0x10];};": "struct s { int a ; struct s * b [ 16 ] ; } ;",
		"int a=(1);":                         "int a = 1 ;",
		"int a=1+2;":                         "int a = 1 + 2 ;",
		"int a=b=c;":                         "int a = b = c ;",
		"int a={1};":                         "int a = { 1 } ;",
		"char a[2][3]={1,'a',b=2};":          "char a [ 2 ] [ 3 ] = { 1 , 97 , b = 2 } ;",
		"void**f(int a,struct s b){;}":       "void * * f ( int a , struct s b ) { ; }",
		// structs, then globals, then functions
		"int f(){}int a;struct s{int b;};int g(){}char c;struct t{};": "struct s { int b ; } ; struct t { } ; int a ; char c ; int f ( ) { } int g ( ) { }",
	} {
		if got := tree.Print(read(t, s)); got != want {
			t.Errorf("%s: %q", s, got)
		}
	}
}

// Promise 9.2: the printed form of each statement and expression.
func TestPrintStatements(t *testing.T) {
	for s, want := range map[string]string{
		";":                   ";",
		"{}":                  "{ }",
		"{;}":                 "{ ; }",
		"int a=1;":            "int a = 1 ;",
		"return;":             "return ;",
		"return(a);":          "return a ;",
		"break;continue;":     "break ; continue ;",
		"if(a)b;":             "if ( a ) { b ; }",
		"if(a);":              "if ( a ) { ; }",
		"if(a){}":             "if ( a ) { }",
		"if(a){}else{}":       "if ( a ) { }",
		"if(a);else;":         "if ( a ) { ; } else { ; }",
		"if(a)b;else if(c)d;": "if ( a ) { b ; } else { if ( c ) { d ; } }",
		"if(a)if(b);else;":    "if ( a ) { if ( b ) { ; } else { ; } }",
		"if(a){{b;}}":         "if ( a ) { { b ; } }",
		"while(a+b)c;":        "while ( a + b ) { c ; }",
		"do a;while(b);":      "do { a ; } while ( b ) ;",
		"for(;;);":            "for ( ; ; ) { ; }",
		"for(a=1;a<2;a++)b;":  "for ( a = 1 ; a < 2 ; a ++ ) { b ; }",
		"switch(a+1){}":       "switch ( a + 1 ) { }",
		"switch(a){case-1:b;c;case 0x10:default:{d;}}": "switch ( a ) { case 4294967295 : b ; c ; case 16 : default : { d ; } }",
		"a;":                              "a ;",
		"'\\n';":                          "10 ;",
		"-a;":                             "- a ;",
		"- -a;":                           "- ( - a ) ;",
		"!(a+b);":                         "! ( a + b ) ;",
		"-f();":                           "- f ( ) ;",
		"&a[1];":                          "& a [ 1 ] ;",
		"*a.b;":                           "* a . b ;",
		"-1;":                             "- 1 ;",
		"-sizeof(int);":                   "- sizeof ( int ) ;",
		"++*a;":                           "++ ( * a ) ;",
		"*a++;":                           "* ( a ++ ) ;",
		"a++;":                            "a ++ ;",
		"a->b--;":                         "a -> b -- ;",
		"a+b+c;":                          "( a + b ) + c ;",
		"a=b=c;":                          "a = ( b = c ) ;",
		"a<<=b<<c;":                       "a <<= ( b << c ) ;",
		"a[b];":                           "a [ b ] ;",
		"a[b+1][c];":                      "a [ ( b + 1 ) ] [ c ] ;",
		"(*a)[-1];":                       "( * a ) [ ( - 1 ) ] ;",
		"(*a).b->c;":                      "( * a ) . b -> c ;",
		"a?b:c;":                          "a ? b : c ;",
		"a||b?c=1:-d;":                    "( a || b ) ? ( c = 1 ) : ( - d ) ;",
		"f(a,b+1,g());":                   "f ( a , ( b + 1 ) , g ( ) ) ;",
		"out(in());":                      "out ( in ( ) ) ;",
		"out(a+b);":                       "out ( ( a + b ) ) ;",
		"sizeof(struct s**)/sizeof(int);": "sizeof ( struct s * * ) / sizeof ( int ) ;",
		"(((a)))+((1));":                  "a + 1 ;",
		"(sizeof(int))[a];":               "sizeof ( int ) [ a ] ;", // as the chapter has it, though it is no program
	} {
		if got := tree.Print(read(t, "int f(){"+s+"}")); got != strings.TrimSuffix("int f ( ) { "+want, " ")+" }" {
			t.Errorf("%s: %q", s, got)
		}
	}
}

// Promise 9.3: where the printed form is nested too deep or too long, it is not read; else it is.
func TestPrintedTooFar(t *testing.T) {
	deep := "int a=1" + strings.Repeat("+1", 99) + ";"
	if _, _, e := tree.Read(tree.Print(read(t, deep))); e != api.OK {
		t.Errorf("%v", e)
	}
	deep = "int a=1" + strings.Repeat("+1", 101) + ";"
	if _, _, e := tree.Read(tree.Print(read(t, deep))); e != api.ErrLong {
		t.Errorf("%v", e)
	}
	long := "int f(){" + strings.Repeat(";", api.MaxText/2) + "}"
	if _, pos, e := tree.Read(tree.Print(read(t, long))); e != api.ErrLong || pos != (api.Pos{Line: 1, Col: 1}) {
		t.Errorf("%v", e)
	}
}

// Promise 9.2: the printed form is the same for any form of the text.
func TestPrintIsStable(t *testing.T) {
	const s = "struct s{int a;struct s*n;};struct s*g=0;int f(char c){while(c--)if(g)g=g->n;else return sizeof(struct s)*c;do{c+=1;}while(!c&&g);return c?1:-1;}int main(){for(;;)switch(in()){case 'a':out(f(1));break;default:return 0;}}"
	want := tree.Print(read(t, s))
	if got := tree.Print(read(t, lexed(s, "\n\t// x\n"))); got != want {
		t.Errorf("%s", got)
	}
	if got := tree.Print(read(t, want)); got != want {
		t.Errorf("%s", got)
	}
}
