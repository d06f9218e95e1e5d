package lex_test

import (
	"strings"
	"testing"

	"rushlight/api"
	"rushlight/lex"
)

// fails reports as a fault a text that does not have this error at this position, and nothing beside them.
func fails(t *testing.T, s string, line, col int, want api.Errno) {
	t.Helper()
	l, pos, e := lex.Lex(s)
	if len(l) != 0 || pos != (api.Pos{Line: line, Col: col}) || e != want {
		t.Errorf("%.60q: %d tokens, %v, %v; not %d:%d, %v", s, len(l), pos, e, line, col, want)
	}
}

// Promise 7.1: bytes with which no token starts.
func TestNoToken(t *testing.T) {
	const starts = "\t\n\r !%&()*+,-./:;<=>?[]^{|}~"
	for c := range 256 {
		s := string([]byte{byte(c)})
		letterOrDigit := s == "_" || s >= "a" && s <= "z" || s >= "A" && s <= "Z" || s >= "0" && s <= "9"
		if letterOrDigit || strings.Contains(starts, s) {
			if _, _, e := lex.Lex(s); e != api.OK {
				t.Errorf("byte %d: %v", c, e)
			}
			continue
		}
		fails(t, s, 1, 1, api.ErrForm)
		fails(t, "a "+s+" b", 1, 3, api.ErrForm)
		fails(t, "a;\n/*\n*/+"+s, 3, 4, api.ErrForm)
	}
}

// Promise 7.1: comments that are not terminated.
func TestOpenComments(t *testing.T) {
	for _, s := range []string{"/*", "/*/", "/* ", "/* *", "/* * /", "/*\n\n", "/* /* ", "/*//\n", "/* ' @", "/*" + strings.Repeat("*", 1000)} {
		fails(t, s, 1, 1, api.ErrForm)
		fails(t, "a\n b "+s, 2, 4, api.ErrForm)
		fails(t, "/**/"+s, 1, 5, api.ErrForm)
	}
}

// Promise 7.1: numbers.
func TestBadNumbers(t *testing.T) {
	huge := strings.Repeat("9", 1000)
	for s, want := range map[string]api.Errno{
		"08a": api.ErrForm, "1a": api.ErrForm, "1_": api.ErrForm, "1Z": api.ErrForm, "00x1": api.ErrForm, "0b1": api.ErrForm, "1e5": api.ErrForm, "5u": api.ErrForm, "10x": api.ErrForm,
		"0x": api.ErrForm, "0X": api.ErrForm, "0xg": api.ErrForm, "0x_": api.ErrForm, "0x ": api.ErrForm, "0x+1": api.ErrForm, "0x.5": api.ErrForm, "0xx1": api.ErrForm, "0x'a'": api.ErrForm,
		"0x1g": api.ErrForm, "0x1_": api.ErrForm, "0xFFu": api.ErrForm, "0x1x1": api.ErrForm, "0x1 f": api.OK, "1 a": api.OK, "1/**/a": api.OK,
		"4294967296": api.ErrRange, "0004294967296": api.ErrRange, "10000000000": api.ErrRange, "18446744073709551616": api.ErrRange, "18446744073709551617": api.ErrRange, huge: api.ErrRange,
		"0x100000000": api.ErrRange, "0X00100000000": api.ErrRange, "0x10000000000000000": api.ErrRange, "0x" + huge: api.ErrRange,
		// what is named first is returned
		"4294967296a": api.ErrForm, huge + "_": api.ErrForm, "0x100000000g": api.ErrForm, "0x" + huge + "G": api.ErrForm,
	} {
		if want == api.OK {
			if _, _, e := lex.Lex(s); e != want {
				t.Errorf("%q: %v", s, e)
			}
			continue
		}
		fails(t, s, 1, 1, want)
		fails(t, "x=\n("+s, 2, 2, want)
	}
}

// Promise 7.1: character constants of all bytes, by themselves and behind a \.
func TestCharacters(t *testing.T) {
	for c := range 256 {
		s := "'" + string([]byte{byte(c)}) + "'"
		if c < 32 || c > 126 || c == '\'' || c == '\\' {
			fails(t, s, 1, 1, api.ErrForm)
		} else if l, _, e := lex.Lex(s); e != api.OK || len(l) != 1 || l[0].Num != uint32(c) || l[0].Kind != api.TokNum || l[0].Text != s {
			t.Errorf("%q: %v, %v", s, l, e)
		}
		s = "'\\" + string([]byte{byte(c)}) + "'"
		want, found := map[int]uint32{'n': 10, 't': 9, 'r': 13, '0': 0, '\\': 92, '\'': 39}[c]
		if !found {
			fails(t, s, 1, 1, api.ErrForm)
		} else if l, _, e := lex.Lex(s); e != api.OK || len(l) != 1 || l[0].Num != want || l[0].Kind != api.TokNum || l[0].Text != s {
			t.Errorf("%q: %v, %v", s, l, e)
		}
	}
	for _, s := range []string{"'", "''", "'''", "'a", "'ab'", "'a\n", "'\\", "'\\'", "'\\n", "'\\nn'", "'\\x41'", "'\\00'", "'\\012'", "'\u00e9'", "''a''", "' ", "'\\ n'", "'a'b", "'a'1", "'a'_", "'\\n'n", "' 'int", "'0'0x1"} {
		fails(t, s, 1, 1, api.ErrForm)
		fails(t, "int x\n\t= "+s, 2, 4, api.ErrForm)
	}
}

// Promise 7.1: names and texts that are too long.
func TestTooLong(t *testing.T) {
	for n := range 100 {
		if n < 31 {
			continue
		}
		if n == 31 {
			tokens(t, "a "+long(n)+"+")
			continue
		}
		fails(t, long(n), 1, 1, api.ErrLong)
		fails(t, "a\n "+long(n)+"@", 2, 2, api.ErrLong)
	}
	fails(t, "while"+strings.Repeat("_", 27), 1, 1, api.ErrLong)
	fails(t, "_"+strings.Repeat("0", 31), 1, 1, api.ErrLong)
	fails(t, strings.Repeat("0", 32)+"a", 1, 1, api.ErrForm) // a number, not a name
	tokens(t, strings.Repeat("1", 9)+" "+strings.Repeat("0", 5000))

	for _, s := range []string{" ", ";", "\n", "x "} {
		full := strings.Repeat(s, api.MaxText/len(s))
		tokens(t, full)
		fails(t, full+" ", 1, 1, api.ErrLong)
	}
	fails(t, "@"+strings.Repeat(" ", api.MaxText), 1, 1, api.ErrLong)
	fails(t, "\n@"+strings.Repeat(" ", api.MaxText-2), 2, 1, api.ErrForm)
	fails(t, long(api.MaxText), 1, 1, api.ErrLong)
	fails(t, strings.Repeat("\n", api.MaxText-1)+"@", api.MaxText, 1, api.ErrForm)
	fails(t, strings.Repeat(" ", api.MaxText-1)+"@", 1, api.MaxText, api.ErrForm)
	fails(t, strings.Repeat("/**/", api.MaxText), 1, 1, api.ErrLong)
}

// Promise 7.1: of several errors the first in the text is returned.
func TestFirstError(t *testing.T) {
	fails(t, "a @ 08a", 1, 3, api.ErrForm)
	fails(t, "08a @", 1, 1, api.ErrForm)
	fails(t, "4294967296 @", 1, 1, api.ErrRange)
	fails(t, "\n4294967296\n"+long(40), 2, 1, api.ErrRange)
	fails(t, long(40)+" 4294967296", 1, 1, api.ErrLong)
	fails(t, "1 /* "+long(40), 1, 3, api.ErrForm)
	fails(t, "/* @ 08a */ 'ab' /*", 1, 13, api.ErrForm)
	fails(t, "// @\n4294967296a", 2, 1, api.ErrForm)
}
