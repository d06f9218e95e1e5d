package tree

import "rushlight/api"

// failure is what the parser panics with at the first error.
type failure struct {
	pos api.Pos
	e   api.Errno
}

// parser goes through the tokens of a text once.
type parser struct {
	tokens []api.Token // those that are not parsed yet
	end    api.Pos     // of the text
	depth  int         // how many parts whose nesting is limited have begun and not ended
}

// peek is the next token; at the end of the text, one of no kind that stands there.
func (p *parser) peek() api.Token { return p.ahead(0) }

// ahead is the token that n others stand ahead of.
func (p *parser) ahead(n int) api.Token {
	if n >= len(p.tokens) {
		return api.Token{Pos: p.end}
	}
	return p.tokens[n]
}

// next passes over the next token, which it returns. There must be one.
func (p *parser) next() api.Token {
	t := p.peek()
	p.tokens = p.tokens[1:]
	return t
}

// is reports whether the next token is a keyword or symbol. No token of another kind has the text of one.
func (p *parser) is(text string) bool { return p.peek().Text == text }

// accept passes over a keyword or symbol if it is the next token.
func (p *parser) accept(text string) bool {
	found := p.is(text)
	if found {
		p.next()
	}
	return found
}

// expect passes over a keyword or symbol that must be the next token.
func (p *parser) expect(text string) {
	if !p.accept(text) {
		p.fail(api.ErrForm)
	}
}

// take passes over a token that must be of a kind.
func (p *parser) take(kind int) api.Token {
	if p.peek().Kind != kind {
		p.fail(api.ErrForm)
	}
	return p.next()
}

// fail reports an error at the next token.
func (p *parser) fail(e api.Errno) { panic(failure{p.peek().Pos, e}) }

// enter begins a part whose nesting is limited. A token that cannot begin it is no place where the nesting is too deep.
func (p *parser) enter(begins func(t api.Token) bool) {
	if !begins(p.peek()) {
		p.fail(api.ErrForm)
	}
	if p.depth == MaxDepth {
		p.fail(api.ErrLong)
	}
	p.depth++
}

// leave ends the part that was entered last.
func (p *parser) leave() { p.depth-- }
