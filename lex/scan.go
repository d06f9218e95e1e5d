package lex

import (
	"strings"

	"rushlight/api"
)

// kindEnd is the kind of what a scanner returns at the end of the text: it is no token.
const kindEnd = 0

// The bytes that begin and end comments.
const (
	lineComment  = "//"
	blockComment = "/*"
	blockEnd     = "*/"
)

// start is the position of the first byte of a text.
func start() api.Pos { return api.Pos{Line: 1, Col: 1} }

// scanner is a function that returns one token of the text at each call, in order.
// Of a token or comment that is not valid only the position is returned, and no call advances beyond it.
func scanner(text string) func() (api.Token, api.Errno) {
	rest, pos := text, start()
	advance := func(n int) {
		pos = after(pos, rest[:n])
		rest = rest[n:]
	}
	return func() (api.Token, api.Errno) {
		for {
			n, e := blank(rest)
			if e != api.OK {
				return api.Token{Pos: pos}, e
			}
			if n == 0 {
				break
			}
			advance(n)
		}
		if rest == "" {
			return api.Token{Kind: kindEnd, Pos: pos}, api.OK
		}
		t, e := token(rest)
		if e != api.OK {
			return api.Token{Pos: pos}, e
		}
		t.Pos = pos
		advance(len(t.Text))
		return t, api.OK
	}
}

// after is the position behind s, which begins at p.
func after(p api.Pos, s string) api.Pos {
	for k := range len(s) {
		p.Col++
		if s[k] == '\n' {
			p = api.Pos{Line: p.Line + 1, Col: 1}
		}
	}
	return p
}

// blank is how many bytes of blanks, or of one comment, s begins with; ErrForm if the comment is not terminated.
func blank(s string) (int, api.Errno) {
	if strings.HasPrefix(s, lineComment) {
		line, _, _ := strings.Cut(s, "\n")
		return len(line), api.OK
	}
	if behind, found := strings.CutPrefix(s, blockComment); found {
		// What ends the comment stands behind both bytes that begin it: /*/ is not terminated.
		n := strings.Index(behind, blockEnd)
		if n < 0 {
			return 0, api.ErrForm
		}
		return len(blockComment) + n + len(blockEnd), api.OK
	}
	return span(s, isBlank), api.OK
}
