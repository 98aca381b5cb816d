package lex

// count returns how many bytes at the beginning of s follow one another that belong to a class.
func count(s string, belongs func(c byte) bool) int {
	for i := range len(s) {
		if !belongs(s[i]) {
			return i
		}
	}
	return len(s)
}

func isLetter(c byte) bool { return 'a' <= c && c <= 'z' || 'A' <= c && c <= 'Z' }

func isDigit(c byte) bool { return '0' <= c && c <= '9' }

func isBlank(c byte) bool { return c == 32 || c == 9 || c == 10 || c == 13 }

// inWord reports whether c can follow the first letter of a word.
func inWord(c byte) bool { return isLetter(c) || isDigit(c) || c == '_' }

// inComment reports whether c can follow the # of a comment. The byte 10 that ends it is left out: it is a blank anyway.
func inComment(c byte) bool { return c != 10 }
