package lex

import (
	"strconv"
	"strings"

	"rushlight/api"
)

// wordBits is how many bits a number has.
const wordBits = 32

// token is the token that s, which is not empty, begins with, without a position.
func token(s string) (api.Token, api.Errno) {
	switch c := s[0]; {
	case isLetter(c):
		return name(s)
	case isDigit(c):
		return number(s)
	case c == '\'':
		return character(s)
	}
	return symbol(s)
}

// name is the name or keyword that s begins with.
func name(s string) (api.Token, api.Errno) {
	text := s[:span(s, isNamePart)]
	if len(text) > api.MaxName {
		return api.Token{}, api.ErrLong
	}
	if Word(text) {
		return api.Token{Kind: api.TokWord, Text: text}, api.OK
	}
	return api.Token{Kind: api.TokName, Text: text}, api.OK
}

// number is the decimal or hexadecimal number that s begins with.
func number(s string) (api.Token, api.Errno) {
	text := s[:span(s, isDigit)]
	digits, base := text, 10
	if strings.HasPrefix(s, "0x") || strings.HasPrefix(s, "0X") {
		text = s[:2+span(s[2:], isHexDigit)]
		digits, base = text[2:], 16
	}
	if digits == "" || runsOn(s, len(text)) {
		return api.Token{}, api.ErrForm
	}
	n, err := strconv.ParseUint(digits, base, wordBits)
	if err != nil {
		return api.Token{}, api.ErrRange // there are only digits: nothing else can be wrong
	}
	return api.Token{Kind: api.TokNum, Text: text, Num: uint32(n)}, api.OK
}

// character is the character constant that s begins with.
func character(s string) (api.Token, api.Errno) {
	inner := 1
	if len(s) > 1 && s[1] == '\\' {
		inner = 2
	}
	size := 1 + inner + 1
	if len(s) < size || s[size-1] != '\'' || runsOn(s, size) {
		return api.Token{}, api.ErrForm
	}
	n, found := plain(s[1])
	if inner == 2 {
		n, found = escaped(s[2])
	}
	if !found {
		return api.Token{}, api.ErrForm
	}
	return api.Token{Kind: api.TokNum, Text: s[:size], Num: n}, api.OK
}

// plain is the number of a byte that stands for itself in a character constant; false for others.
func plain(c byte) (uint32, bool) {
	if c < 32 || c > 126 || c == '\'' || c == '\\' {
		return 0, false
	}
	return uint32(c), true
}

// escaped is the number of a byte that stands behind a \ in a character constant; false for others.
func escaped(c byte) (uint32, bool) {
	switch c {
	case 'n':
		return 10, true
	case 't':
		return 9, true
	case 'r':
		return 13, true
	case '0':
		return 0, true
	case '\\', '\'':
		return uint32(c), true
	}
	return 0, false
}

// runsOn reports whether a letter or digit follows the number that the first n bytes of s are.
func runsOn(s string, n int) bool { return n < len(s) && isNamePart(s[n]) }

// symbol is the longest symbol that s begins with.
func symbol(s string) (api.Token, api.Errno) {
	// Longer ones stand ahead of shorter ones: the first that matches is the longest.
	symbols := [...]string{
		"<<=", ">>=",
		"->", "++", "--", "<<", ">>", "<=", ">=", "==", "!=", "&&", "||",
		"+=", "-=", "*=", "/=", "%=", "&=", "|=", "^=",
		"+", "-", "*", "/", "%", "&", "|", "^", "~", "!", "<", ">", "=",
		"?", ":", ";", ",", ".", "(", ")", "[", "]", "{", "}",
	}
	for _, text := range symbols {
		if strings.HasPrefix(s, text) {
			return api.Token{Kind: api.TokMark, Text: text}, api.OK
		}
	}
	return api.Token{}, api.ErrForm
}
