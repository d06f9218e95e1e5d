package lex_test

import (
	"slices"
	"strings"
	"testing"

	"rushlight/api"
	"rushlight/lex"
)

// keywords is all keywords.
const keywords = "break case char continue default do else for if in int out return sizeof struct switch void while"

// symbols is all symbols.
const symbols = "<<= >>= -> ++ -- << >> <= >= == != && || += -= *= /= %= &= |= ^= + - * / % & | ^ ~ ! < > = ? : ; , . ( ) [ ] { }"

// long is a name of n bytes.
func long(n int) string { return strings.Repeat("n", n) }

// bare is tokens without their positions.
func bare(l []api.Token) []api.Token {
	l = slices.Clone(l)
	for k := range l {
		l[k].Pos = api.Pos{}
	}
	return l
}

// tokens is the tokens of a text that must have them.
func tokens(t *testing.T, s string) []api.Token {
	t.Helper()
	l, _, e := lex.Lex(s)
	if e != api.OK {
		t.Fatalf("%.60q: %v", s, e)
	}
	return l
}

// marks is symbols as tokens.
func marks(texts ...string) []api.Token {
	var l []api.Token
	for _, s := range texts {
		l = append(l, api.Token{Kind: api.TokMark, Text: s})
	}
	return l
}

// number is a number as a token.
func number(s string, n uint32) api.Token { return api.Token{Kind: api.TokNum, Text: s, Num: n} }

// named is a name as a token.
func named(s string) api.Token { return api.Token{Kind: api.TokName, Text: s} }

// Promise 7.1: each form of token by itself.
func TestSingleTokens(t *testing.T) {
	var want []api.Token
	for _, s := range strings.Fields(keywords) {
		want = append(want, api.Token{Kind: api.TokWord, Text: s})
	}
	want = append(want, marks(strings.Fields(symbols)...)...)
	for _, s := range []string{"a", "z", "A", "Z", "_", "__", "x1", "_0", "aZ_9", "int1", "ints", "Int", "IF", "_if", "inout", "while_", "x0x1F", "e5", long(31)} {
		want = append(want, named(s))
	}
	want = append(want,
		number("0", 0), number("00", 0), number("7", 7), number("08", 8), number("010", 10), number("0099", 99), number("1234567890", 1234567890),
		number("2147483648", 1<<31), number("4294967295", 1<<32-1), number(strings.Repeat("0", 100)+"4294967295", 1<<32-1),
		number("0x0", 0), number("0X0", 0), number("0x1F", 31), number("0X1f", 31), number("0xabcdef", 0xabcdef), number("0XABCDEF", 0xabcdef),
		number("0x01234567", 0x1234567), number("0x0089", 0x89), number("0xffffffff", 1<<32-1), number("0x"+strings.Repeat("0", 100)+"fFfFfFfF", 1<<32-1),
		number(`'\n'`, 10), number(`'\t'`, 9), number(`'\r'`, 13), number(`'\0'`, 0), number(`'\\'`, 92), number(`'\''`, 39),
		number(`'"'`, 34), number("' '", 32), number("'~'", 126), number("'0'", 48), number("'a'", 97), number("'/'", 47),
	)
	for _, x := range want {
		l, pos, e := lex.Lex(x.Text)
		x.Pos = api.Pos{Line: 1, Col: 1}
		if end := (api.Pos{Line: 1, Col: len(x.Text) + 1}); !slices.Equal(l, []api.Token{x}) || pos != end || e != api.OK {
			t.Errorf("%q: %v, %v, %v", x.Text, l, pos, e)
		}
	}
}

// Promise 7.1: a token is as long as possible.
func TestLongestTokens(t *testing.T) {
	for s, want := range map[string][]api.Token{
		"a+=0x1F; // end":    {named("a"), marks("+=")[0], number("0x1F", 31), marks(";")[0]},
		"a+++++b":            append(append([]api.Token{named("a")}, marks("++", "++", "+")...), named("b")),
		"---->":              marks("--", "--", ">"),
		"--->":               marks("--", "->"),
		"->>":                marks("->", ">"),
		"<<<=":               marks("<<", "<="),
		"<<<<=":              marks("<<", "<<="),
		">>>=":               marks(">>", ">="),
		">>=>=>>":            marks(">>=", ">=", ">>"),
		"<<==":               marks("<<=", "="),
		"===":                marks("==", "="),
		"!==":                marks("!=", "="),
		"!!":                 marks("!", "!"),
		"&&&=&":              marks("&&", "&=", "&"),
		"|||=":               marks("||", "|="),
		"^^=~=":              marks("^", "^=", "~", "="),
		"+-=-+=":             marks("+", "-=", "-", "+="),
		"***=":               marks("*", "*", "*="),
		"%%=/=":              marks("%", "%=", "/="),
		"...":                marks(".", ".", "."),
		"?:;,.()[]{}":        marks("?", ":", ";", ",", ".", "(", ")", "[", "]", "{", "}"),
		"intx int x":         {named("intx"), {Kind: api.TokWord, Text: "int"}, named("x")},
		"do{in}":             {{Kind: api.TokWord, Text: "do"}, marks("{")[0], {Kind: api.TokWord, Text: "in"}, marks("}")[0]},
		"1.5":                {number("1", 1), marks(".")[0], number("5", 5)},
		"-1":                 {marks("-")[0], number("1", 1)},
		"'a''b'":             {number("'a'", 97), number("'b'", 98)},
		"1'a'":               {number("1", 1), number("'a'", 97)},
		"n'a'":               {named("n"), number("'a'", 97)},
		`'\\'+'\''`:          {number(`'\\'`, 92), marks("+")[0], number(`'\''`, 39)},
		"0-0x0-00":           {number("0", 0), marks("-")[0], number("0x0", 0), marks("-")[0], number("00", 0)},
		"0x1F-0xfe+1":        {number("0x1F", 31), marks("-")[0], number("0xfe", 254), marks("+")[0], number("1", 1)},
		long(31) + "+" + "b": {named(long(31)), marks("+")[0], named("b")},
	} {
		if l, _, e := lex.Lex(s); !slices.Equal(bare(l), want) || e != api.OK {
			t.Errorf("%q: %v, %v", s, bare(l), e)
		}
	}
}

// Promise 7.1: positions of the tokens and of the end.
func TestPositions(t *testing.T) {
	for _, x := range []struct {
		s    string
		want []api.Pos
		end  api.Pos
	}{
		{"", nil, api.Pos{Line: 1, Col: 1}},
		{" ", nil, api.Pos{Line: 1, Col: 2}},
		{"\n", nil, api.Pos{Line: 2, Col: 1}},
		{"\n\n\n", nil, api.Pos{Line: 4, Col: 1}},
		{"\t\r \r\n\t", nil, api.Pos{Line: 2, Col: 2}},
		{"a", []api.Pos{{Line: 1, Col: 1}}, api.Pos{Line: 1, Col: 2}},
		{"a b\nc", []api.Pos{{Line: 1, Col: 1}, {Line: 1, Col: 3}, {Line: 2, Col: 1}}, api.Pos{Line: 2, Col: 2}},
		{"\ta\r\n b\n", []api.Pos{{Line: 1, Col: 2}, {Line: 2, Col: 2}}, api.Pos{Line: 3, Col: 1}},
		{"a\rb", []api.Pos{{Line: 1, Col: 1}, {Line: 1, Col: 3}}, api.Pos{Line: 1, Col: 4}},
		{"a+=0x1F; // end", []api.Pos{{Line: 1, Col: 1}, {Line: 1, Col: 2}, {Line: 1, Col: 4}, {Line: 1, Col: 8}}, api.Pos{Line: 1, Col: 16}},
		{"//", nil, api.Pos{Line: 1, Col: 3}},
		{"// x\n", nil, api.Pos{Line: 2, Col: 1}},
		{"//\\\na", []api.Pos{{Line: 2, Col: 1}}, api.Pos{Line: 2, Col: 2}},
		{"// /*\na // */\n", []api.Pos{{Line: 2, Col: 1}}, api.Pos{Line: 3, Col: 1}},
		{"//\x00\xff@'\r\"\na", []api.Pos{{Line: 2, Col: 1}}, api.Pos{Line: 2, Col: 2}},
		{"/**/", nil, api.Pos{Line: 1, Col: 5}},
		{"/***/a", []api.Pos{{Line: 1, Col: 6}}, api.Pos{Line: 1, Col: 7}},
		{"/*/*/a", []api.Pos{{Line: 1, Col: 6}}, api.Pos{Line: 1, Col: 7}},
		{"/*//*/a", []api.Pos{{Line: 1, Col: 7}}, api.Pos{Line: 1, Col: 8}},
		{"/* \n \n*/a/*\n*/", []api.Pos{{Line: 3, Col: 3}}, api.Pos{Line: 4, Col: 3}},
		{"/*\x00\xff@'\"\n*/a", []api.Pos{{Line: 2, Col: 3}}, api.Pos{Line: 2, Col: 4}},
		{"/* * / */a", []api.Pos{{Line: 1, Col: 10}}, api.Pos{Line: 1, Col: 11}},
		{"/*\u00e9*/a", []api.Pos{{Line: 1, Col: 7}}, api.Pos{Line: 1, Col: 8}}, // columns count bytes
		{"a/**/b", []api.Pos{{Line: 1, Col: 1}, {Line: 1, Col: 6}}, api.Pos{Line: 1, Col: 7}},
		{"a//b\n/c", []api.Pos{{Line: 1, Col: 1}, {Line: 2, Col: 1}, {Line: 2, Col: 2}}, api.Pos{Line: 2, Col: 3}},
		{"*/ /", []api.Pos{{Line: 1, Col: 1}, {Line: 1, Col: 2}, {Line: 1, Col: 4}}, api.Pos{Line: 1, Col: 5}},
		{"/=/**//", []api.Pos{{Line: 1, Col: 1}, {Line: 1, Col: 7}}, api.Pos{Line: 1, Col: 8}},
		{"'\\n'\n' '", []api.Pos{{Line: 1, Col: 1}, {Line: 2, Col: 1}}, api.Pos{Line: 2, Col: 4}},
	} {
		l, end, e := lex.Lex(x.s)
		var got []api.Pos
		for _, y := range l {
			got = append(got, y.Pos)
		}
		if !slices.Equal(got, x.want) || end != x.end || e != api.OK {
			t.Errorf("%q: %v to %v, %v", x.s, got, end, e)
		}
	}
}

// Promise 7.3: lexing the text of tokens yields these tokens.
func TestRoundTrip(t *testing.T) {
	all := symbols + " " + keywords + ` x _y1 0 007 0xFF 0X1 'a' ' ' '\n' '\'' '"' '/' ` + long(31)
	for _, s := range []string{"", all, strings.Repeat("x=1;", 8000), "a/**/=//\n=b", "a+ +b", "- ->", "< <=", "/ /", "/ *a* /"} {
		l := tokens(t, s)
		if back := tokens(t, lex.Text(l)); !slices.Equal(bare(back), bare(l)) {
			t.Errorf("%.60q: %v and then %v", s, bare(l), bare(back))
		}
	}
	if s := lex.Text(tokens(t, all)); s != all {
		t.Errorf("%q", s)
	}
}

// Promise 7.3: white space between tokens affects only positions.
func TestWhiteSpace(t *testing.T) {
	parts := strings.Fields(symbols + " " + keywords + ` x _y1 0 007 0xFF 0X1 'a' '\n' '\''`)
	want := bare(tokens(t, strings.Join(parts, " ")))
	if len(want) != len(parts) {
		t.Fatalf("%d tokens of %d", len(want), len(parts))
	}
	// None begins with a /, which a symbol may end with.
	for _, space := range []string{"  ", "\t", "\n", "\r", "\r\n", " /**/", " /*/*/", " // '\n", "\n//\n", " /* x */ /* // */", "\t/*\n*/", " //*\n\t"} {
		s := strings.Join(parts, space)
		for _, s := range []string{s, space + s, s + space, space + s + space} {
			if got := bare(tokens(t, s)); !slices.Equal(got, want) {
				t.Errorf("with %q: %v", space, got)
			}
		}
	}
}

// Promise 7.2.
func TestWordAndName(t *testing.T) {
	for _, s := range strings.Fields(keywords) {
		if !lex.Word(s) || lex.Name(s) {
			t.Errorf("%q: %v, %v", s, lex.Word(s), lex.Name(s))
		}
		for _, near := range []string{s + "x", s + "_", s + "0", "_" + s, strings.ToUpper(s), strings.ToUpper(s[:1]) + s[1:], s + s} {
			if lex.Word(near) || !lex.Name(near) {
				t.Errorf("%q: %v, %v", near, lex.Word(near), lex.Name(near))
			}
		}
		for _, near := range []string{s + " ", " " + s, s + "\n", s + ";", s + "\x00", "0" + s} {
			if lex.Word(near) || lex.Name(near) {
				t.Errorf("%q: %v, %v", near, lex.Word(near), lex.Name(near))
			}
		}
	}
	for s, want := range map[string]bool{
		"": false, "a": true, "z": true, "A": true, "Z": true, "_": true, "__": true, "_1": true, "a1b2": true, "aZ_09": true, "main": true,
		long(31): true, long(32): false, long(1 << 17): false, "_" + strings.Repeat("9", 30): true, "_" + strings.Repeat("9", 31): false,
		"1": false, "1a": false, "0x1": false, "a b": false, "a ": false, " a": false, "a-b": false, "a.b": false, "a'": false, "'a'": false,
		"a\n": false, "\u00e9": false, "a\u00e9": false, "\xff": false, "a\x00": false, "a\u0665": false, "+": false, "(": false, "//": false,
		"goto": true, "static": true, "long": true, "printf": true,
	} {
		if lex.Name(s) != want || lex.Word(s) {
			t.Errorf("%.40q: %v, %v", s, lex.Name(s), lex.Word(s))
		}
	}
	for c := range 256 {
		s := string([]byte{byte(c)})
		letter := s == "_" || s >= "a" && s <= "z" || s >= "A" && s <= "Z"
		if lex.Name(s) != letter || lex.Name("a"+s) != (letter || s >= "0" && s <= "9") {
			t.Errorf("byte %d: %v, %v", c, lex.Name(s), lex.Name("a"+s))
		}
	}
}

// Promise 7.2: texts of any tokens.
func TestText(t *testing.T) {
	for _, x := range []struct {
		l    []api.Token
		want string
	}{
		{nil, ""},
		{[]api.Token{}, ""},
		{[]api.Token{{}}, ""},
		{[]api.Token{{}, {}, {}}, "  "},
		{marks("+"), "+"},
		{marks("+", "=", "a b"), "+ = a b"},
		{[]api.Token{{Kind: -1, Text: "\xff\x00", Num: 5, Pos: api.Pos{Line: -1, Col: 7}}, {Kind: api.TokNum, Text: "0x1F", Num: 2}}, "\xff\x00 0x1F"},
		{tokens(t, "int main(){return 0X1f+'a';}//"), "int main ( ) { return 0X1f + 'a' ; }"},
	} {
		if got := lex.Text(x.l); got != x.want {
			t.Errorf("%v: %q", x.l, got)
		}
	}
}

// Rule R3: results share no memory, and arguments stay as they are.
func TestSharing(t *testing.T) {
	l := tokens(t, "a = 1 ;")
	kept := slices.Clone(l)
	if lex.Text(l); !slices.Equal(l, kept) {
		t.Errorf("Text changed %v to %v", kept, l)
	}
	clear(l)
	if again := tokens(t, "a = 1 ;"); !slices.Equal(again, kept) {
		t.Errorf("%v, and then %v", kept, again)
	}
}
