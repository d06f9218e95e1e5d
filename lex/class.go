package lex

// span is how many bytes, from the first of s on, are of a class.
func span(s string, class func(c byte) bool) int {
	for k := range len(s) {
		if !class(s[k]) {
			return k
		}
	}
	return len(s)
}

// isBlank reports whether c is white space by itself.
func isBlank(c byte) bool { return c == '\t' || c == '\n' || c == '\r' || c == ' ' }

// isLetter reports whether c is a letter, as _ is one.
func isLetter(c byte) bool { return c >= 'a' && c <= 'z' || c >= 'A' && c <= 'Z' || c == '_' }

// isDigit reports whether c is a digit.
func isDigit(c byte) bool { return c >= '0' && c <= '9' }

// isHexDigit reports whether c is a hexadecimal digit.
func isHexDigit(c byte) bool { return isDigit(c) || c >= 'a' && c <= 'f' || c >= 'A' && c <= 'F' }

// isNamePart reports whether c is a byte that a name goes on with.
func isNamePart(c byte) bool { return isLetter(c) || isDigit(c) }
