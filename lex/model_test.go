package lex_test

import (
	"math/big"
	"regexp"
	"slices"
	"strings"
	"testing"

	"rushlight/api"
	"rushlight/lex"
)

// model is a lexer that is made of regular expressions.
type model struct {
	space, open, name, number, char, runsOn, symbol *regexp.Regexp
}

// newModel is a model.
func newModel() model {
	var quoted []string
	for _, s := range strings.Fields(symbols) {
		quoted = append(quoted, regexp.QuoteMeta(s))
	}
	symbol := regexp.MustCompile(`^(?:` + strings.Join(quoted, "|") + `)`)
	symbol.Longest()
	return model{
		space:  regexp.MustCompile(`^(?:[\t\n\r ]|//[^\n]*|/\*(?s:.*?)\*/)+`),
		open:   regexp.MustCompile(`^/\*`),
		name:   regexp.MustCompile(`^[A-Za-z_][A-Za-z0-9_]*`),
		number: regexp.MustCompile(`^(?:0[xX][0-9a-fA-F]*|[0-9]+)`),
		char:   regexp.MustCompile(`^'(?:[ -&(-\[\]-~]|\\[ntr0\\'])'`),
		runsOn: regexp.MustCompile(`^[A-Za-z0-9_]`),
		symbol: symbol,
	}
}

// place is the position of byte n of s.
func place(s string, n int) api.Pos {
	ahead := s[:n]
	return api.Pos{Line: 1 + strings.Count(ahead, "\n"), Col: n - strings.LastIndex(ahead, "\n")}
}

// lex is what Lex returns of s.
func (m model) lex(s string) ([]api.Token, api.Pos, api.Errno) {
	var l []api.Token
	for at := 0; ; {
		at += len(m.space.FindString(s[at:]))
		pos := place(s, at)
		if at == len(s) {
			return l, pos, api.OK
		}
		x, e := m.token(s[at:])
		if e != api.OK {
			return nil, pos, e
		}
		x.Pos = pos
		l = append(l, x)
		at += len(x.Text)
	}
}

// token is the token that s begins with.
func (m model) token(s string) (api.Token, api.Errno) {
	if m.open.MatchString(s) {
		return api.Token{}, api.ErrForm
	}
	if text := m.name.FindString(s); text != "" {
		switch {
		case len(text) > api.MaxName:
			return api.Token{}, api.ErrLong
		case slices.Contains(strings.Fields(keywords), text):
			return api.Token{Kind: api.TokWord, Text: text}, api.OK
		}
		return api.Token{Kind: api.TokName, Text: text}, api.OK
	}
	if text := m.number.FindString(s); text != "" {
		return m.value(text, s[len(text):])
	}
	if text := m.char.FindString(s); text != "" && !m.runsOn.MatchString(s[len(text):]) {
		n := uint32(text[1])
		if len(text) == 4 {
			n = uint32("\n\t\r\x00\\'"[strings.IndexByte(`ntr0\'`, text[2])])
		}
		return api.Token{Kind: api.TokNum, Text: text, Num: n}, api.OK
	}
	if text := m.symbol.FindString(s); text != "" {
		return api.Token{Kind: api.TokMark, Text: text}, api.OK
	}
	return api.Token{}, api.ErrForm
}

// value is a number as a token, with what stands behind it.
func (m model) value(text, behind string) (api.Token, api.Errno) {
	digits, base := text, 10
	if strings.ContainsAny(text, "xX") {
		digits, base = text[2:], 16
	}
	n, right := new(big.Int).SetString(digits, base)
	if !right || m.runsOn.MatchString(behind) {
		return api.Token{}, api.ErrForm
	}
	if n.BitLen() > 32 {
		return api.Token{}, api.ErrRange
	}
	return api.Token{Kind: api.TokNum, Text: text, Num: uint32(n.Uint64())}, api.OK
}

// dice is a sequence of numbers that is the same each time.
type dice uint64

// roll is the next number below n.
func (d *dice) roll(n int) int {
	*d = *d*6364136223846793005 + 1442695040888963407
	return int(uint64(*d)>>33) % n
}

// draw is a text of some parts.
func (d *dice) draw(parts []string, most int) string {
	var b strings.Builder
	for range d.roll(most) {
		b.WriteString(parts[d.roll(len(parts))])
	}
	return b.String()
}

// agree holds the lexer against the model on one text, and returns the error.
func agree(t *testing.T, m model, s string) api.Errno {
	t.Helper()
	l, pos, e := lex.Lex(s)
	wantL, wantPos, wantE := m.lex(s)
	if !slices.Equal(l, wantL) || pos != wantPos || e != wantE {
		t.Fatalf("%q:\n%v, %v, %v, not\n%v, %v, %v", s, l, pos, e, wantL, wantPos, wantE)
	}
	return e
}

// Promises 7.1 and 7.3: texts of parts that mostly are tokens.
func TestModelOfParts(t *testing.T) {
	parts := strings.Fields(symbols + " " + keywords + ` a b1 _ x0 0 1 42 007 0xF 0X1f 'a' '\n' '\'' '\\' 4294967295`)
	parts = append(parts, " ", " ", "\n", "\t", "\r\n", "// x\n", "/* y */", "/*\n*/", " ", " ")
	m, d, right := newModel(), dice(1), 0
	for range 20000 {
		s := d.draw(parts, 20)
		if agree(t, m, s) != api.OK {
			continue
		}
		right++
		l := tokens(t, s)
		if back := tokens(t, lex.Text(l)); !slices.Equal(bare(back), bare(l)) {
			t.Fatalf("%q: %v and then %v", s, bare(l), bare(back))
		}
	}
	if right < 3000 || right > 17000 {
		t.Errorf("%d of 20000 texts are tokens", right)
	}
}

// Promise 7.1: texts of parts of tokens.
func TestModelOfBytes(t *testing.T) {
	parts := strings.Split(`+-*/%&|^~!<>=?:;,.()[]{}'\\@ntr0x9aAfFgzZ_ `, "")
	parts = append(parts, "\n", "\t", "\r", "\x00", "\x7f", "\xff", "\u00e9", "\v", "\"", "'", "'", "0x", "//", "/*", "*/", "4294967296", long(30))
	m, d, count := newModel(), dice(2), map[api.Errno]int{}
	for range 40000 {
		count[agree(t, m, d.draw(parts, 9))]++
	}
	for _, e := range []api.Errno{api.OK, api.ErrForm, api.ErrLong, api.ErrRange} {
		if count[e] < 100 {
			t.Errorf("%v: %d texts", e, count[e])
		}
	}
}

// Promise 7.1: all short texts of a few bytes.
func TestModelOfShortTexts(t *testing.T) {
	const bytes = "/*'\\n0xa_ \n<>=-+"
	m := newModel()
	texts := []string{""}
	for range 4 {
		var longer []string
		for _, s := range texts {
			for k := range len(bytes) {
				longer = append(longer, s+bytes[k:k+1])
			}
		}
		texts = longer
		for _, s := range texts {
			agree(t, m, s)
		}
	}
}
