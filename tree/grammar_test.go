package tree_test

import (
	"strings"
	"testing"

	"rushlight/api"
	"rushlight/lex"
	"rushlight/tree"
)

// grammar is the chapter's grammar: a rule a line, its choices separated by blanks and |.
// What is in small letters and has a rule is a part; NAME and NUM are tokens of those kinds; all else is a token with that text.
const grammar = `
program = | top program
top = STRUCT | var | func
STRUCT = struct NAME { fields } ;
fields = | field fields
field = type NAME dims ;
dims = | [ NUM ] dims
type = base stars
base = int | char | void | struct NAME
stars = | * stars
var = type NAME dims ; | type NAME dims = init ;
init = assign | { assigns }
assigns = assign | assign , assigns
func = type NAME ( ) block | type NAME ( void ) block | type NAME ( params ) block
params = type NAME | type NAME , params
block = { stmts }
stmts = | stmt stmts
stmt = var | if ( expr ) stmt | if ( expr ) stmt else stmt | while ( expr ) stmt | do stmt while ( expr ) ; | for ( maybe ; maybe ; maybe ) stmt | switch ( expr ) { labels } | return maybe ; | break ; | continue ; | block | ; | expr ;
maybe = | expr
labels = | label stmts labels
label = case NUM : | case - NUM : | default :
expr = assign
assign = cond | cond OP assign
OP = = | += | -= | *= | /= | %= | &= | |= | ^= | <<= | >>=
cond = binary | binary ? expr : cond
binary = unary | unary BETWEEN binary
BETWEEN = || | && | VBAR | ^ | & | == | != | < | > | <= | >= | << | >> | + | - | * | / | %
unary = - unary | ~ unary | ! unary | * unary | & unary | ++ unary | -- unary | sizeof ( type ) | post
post = prime behinds
behinds = | behind behinds
behind = [ expr ] | . NAME | -> NAME | ++ | --
prime = NUM | NAME | NAME ( ) | NAME ( assigns ) | out ( assign ) | in ( ) | ( expr )
`

// rules is the grammar as lists of choices, each a list of parts and tokens.
type rules map[string][][]string

// newRules is the rules of the grammar.
func newRules() rules {
	r := rules{}
	for _, line := range strings.Split(strings.TrimSpace(grammar), "\n") {
		part, choices, _ := strings.Cut(line, " = ")
		for _, choice := range strings.Split(" "+choices+" ", " | ") {
			l := strings.Fields(choice)
			for k := range l {
				if l[k] == "VBAR" {
					l[k] = "|"
				}
			}
			r[part] = append(r[part], l)
		}
	}
	return r
}

// state is a choice of a part that has begun at a token, parsed up to dot.
type state struct {
	part             string
	choice, dot, row int
}

// set is states in the order in which they are found.
type set struct {
	l     []state
	known map[state]bool
}

// add adds a state that is not there yet.
func (s *set) add(x state) {
	if !s.known[x] {
		s.known[x] = true
		s.l = append(s.l, x)
	}
}

// word is what a token is in the grammar.
func word(t api.Token) string {
	switch t.Kind {
	case api.TokName:
		return "NAME"
	case api.TokNum:
		return "NUM"
	}
	return t.Text
}

// refused is the number of the first token that cannot follow those ahead of it; how many there are if more is required; else -1.
// It is Earley's way, which knows of a grammar nothing but its rules.
func (r rules) refused(tokens []string) int {
	sets := []*set{{known: map[state]bool{}}}
	for k := range r["program"] {
		sets[0].add(state{part: "program", choice: k})
	}
	for at := 0; ; at++ {
		now, next := sets[at], &set{known: map[state]bool{}}
		whole := false
		for k := 0; k < len(now.l); k++ {
			x := now.l[k]
			choice := r[x.part][x.choice]
			if x.dot == len(choice) {
				whole = whole || x.part == "program" && x.row == 0
				r.complete(sets, now, x, at)
				continue
			}
			if r[choice[x.dot]] != nil {
				r.predict(sets, now, x, at)
			} else if at < len(tokens) && choice[x.dot] == tokens[at] {
				next.add(state{x.part, x.choice, x.dot + 1, x.row})
			}
		}
		if at == len(tokens) {
			if whole {
				return -1
			}
			return at
		}
		if len(next.l) == 0 {
			return at
		}
		sets = append(sets, next)
	}
}

// predict adds what can begin where x stands.
func (r rules) predict(sets []*set, now *set, x state, at int) {
	part := r[x.part][x.choice][x.dot]
	for k := range r[part] {
		now.add(state{part: part, choice: k, row: at})
		if len(r[part][k]) == 0 { // nothing is complete at once
			now.add(state{x.part, x.choice, x.dot + 1, x.row})
		}
	}
}

// complete adds what goes on behind x, which is complete.
func (r rules) complete(sets []*set, now *set, x state, at int) {
	for _, y := range sets[x.row].l {
		if choice := r[y.part][y.choice]; y.dot < len(choice) && choice[y.dot] == x.part {
			now.add(state{y.part, y.choice, y.dot + 1, y.row})
		}
	}
}

// derive adds to l a text of a part; the less fuel, the shorter.
func (r rules) derive(d *dice, l []string, part string, fuel *int) []string {
	*fuel--
	choices := r[part]
	choice := choices[d.roll(len(choices))]
	if *fuel < 0 {
		choice = choices[0]
		if part == "unary" {
			choice = []string{"NUM"}
		}
	}
	for _, x := range choice {
		if r[x] != nil {
			l = r.derive(d, l, x, fuel)
		} else {
			l = append(l, x)
		}
	}
	return l
}

// spoil changes a few tokens.
func (d *dice) spoil(l, all []string) []string {
	for range d.roll(3) {
		k := d.roll(len(l) + 1)
		switch d.roll(4) {
		case 0:
			l = append(l[:k:k], append([]string{all[d.roll(len(all))]}, l[k:]...)...)
		case 1:
			l = l[:k:k]
		case 2:
			if k < len(l) {
				l = append(l[:k:k], l[k+1:]...)
			}
		case 3:
			if k < len(l) {
				l = append(append(l[:k:k], all[d.roll(len(all))]), l[k+1:]...)
			}
		}
	}
	return l
}

// agrees holds Read against the rules on a text, and reports whether it is a program.
func agrees(t *testing.T, r rules, s string) bool {
	t.Helper()
	tokens, end, e := lex.Lex(s)
	if e != api.OK {
		t.Fatalf("%q: %v", s, e)
	}
	var words []string
	for _, x := range tokens {
		words = append(words, word(x))
	}
	want, wantE := end, api.OK
	if k := r.refused(words); k >= 0 {
		wantE = api.ErrForm
		if k < len(tokens) {
			want = tokens[k].Pos
		}
	}
	p, pos, e := tree.Read(s)
	if pos != want || e != wantE || e != api.OK && len(p.Structs)+len(p.Globals)+len(p.Funcs) > 0 {
		t.Fatalf("%q: %v at %v, not %v at %v", s, e, pos, wantE, want)
	}
	return e == api.OK
}

// Promise 9.1: texts that the grammar gives, whole and spoiled.
func TestGrammar(t *testing.T) {
	all := strings.Fields("NAME NUM int char void struct if else while do for switch case default return break continue sizeof in out { } ( ) [ ] ; , : ? . -> ++ -- + - * & = += == ~ ! || | <<")
	r, d, right := newRules(), dice(1), 0
	for range 6000 {
		fuel := 15 + d.roll(100)
		words := d.spoil(r.derive(&d, nil, []string{"program", "top", "func", "func"}[d.roll(4)], &fuel), all)
		for k, x := range words {
			words[k] = strings.NewReplacer("NAME", []string{"a", "b1", "_"}[d.roll(3)], "NUM", []string{"0", "0x1f", "'a'"}[d.roll(3)]).Replace(x)
		}
		if agrees(t, r, strings.Join(words, []string{" ", "\n", " /* */\t"}[d.roll(3)])) {
			right++
		}
	}
	if right < 2000 || right > 5000 {
		t.Errorf("%d of 6000 texts are programs", right)
	}
}

// Promise 9.1: each token at each place of a few programs.
func TestEachTokenAtEachPlace(t *testing.T) {
	r := newRules()
	all := strings.Fields("a 1 int char void struct if else while do for switch case default return break continue sizeof in out { } ( ) [ ] ; , : ? . -> ++ -- + - * / % & | ^ ~ ! < > = <= >= == != && || << >> += <<= >>= -= *= /= %= &= |= ^=")
	for _, s := range []string{
		"struct s { int a ; struct s * b [ 2 ] ; } ; struct s * g [ 1 ] [ 2 ] = { 1 , a } ;",
		"void f ( void ) { } char * f ( char * a , struct s b ) { ; }",
		"int f ( ) { int a = 1 ; if ( a ) b ; else { c ; } while ( 1 ) ; do ; while ( a ) ; return a ; }",
		"int f ( ) { for ( a ; b ; c ) continue ; for ( ; ; ) { } switch ( a ) { case - 1 : a ; default : break ; } }",
		"int f ( ) { a = b ? c : - 1 ; f ( ) + f ( 1 , a [ 2 ] . b -> c ++ ) ; }",
		"int f ( ) { out ( in ( ) ) ; sizeof ( struct s * * ) ; -- ( a ) ; }",
	} {
		l := strings.Fields(s)
		for k := range l {
			agrees(t, r, strings.Join(l[:k], " "))
			agrees(t, r, strings.Join(append(l[:k:k], l[k+1:]...), " "))
			for _, x := range all {
				agrees(t, r, strings.Join(append(append(l[:k:k], x), l[k:]...), " "))
				agrees(t, r, strings.Join(append(append(l[:k:k], x), l[k+1:]...), " "))
			}
		}
		if !agrees(t, r, s) {
			t.Errorf("%s: no program", s)
		}
	}
}
