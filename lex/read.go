package lex

import "drawloom/api"

// greatest is the greatest value of an integer: one more than the greatest word, so that the least word can be written, too.
const greatest = 1 << 31

// signs are the signs of the language; a sign comes before those with which it begins, so that the first one that fits is the longest one.
var signs = [...]string{
	">>>",
	"<<", ">>", "<=", ">=", "==", "!=", "<:", "&&", "||",
	"(", ")", "{", "}", "[", "]", ",", ";", "=", "+", "-", "*", "/", "%", "&", "|", "^", "~", "!", "<", ">",
}

// languageWords returns the words of the language.
func languageWords() map[string]bool {
	return map[string]bool{
		"func": true, "kernel": true, "buffer": true, "int": true, "shared": true,
		"let": true, "if": true, "else": true, "while": true, "break": true, "continue": true, "return": true,
		"barrier": true, "atomic": true, "collect": true,
		"tid": true, "bid": true, "dim": true, "grid": true,
		"min": true, "max": true, "add": true, "and": true, "or": true, "xor": true,
	}
}

// read returns the token with which s, which is not empty, begins, and whether there is one.
func read(s string, words map[string]bool) (api.Token, bool) {
	switch {
	case isLetter(s[0]):
		return readWord(s, words)
	case isDigit(s[0]):
		return readInteger(s)
	}
	return readSign(s)
}

// readWord returns the word with which s begins; false if it is a name that is too long.
func readWord(s string, words map[string]bool) (api.Token, bool) {
	text := s[:count(s, inWord)]
	if words[text] {
		return newToken(api.TSign, text), true
	}
	if len(text) > api.MaxName {
		return api.Token{}, false
	}
	return newToken(api.TName, text), true
}

// readInteger returns the integer with which s begins; false if it is too great or runs into a letter or _.
func readInteger(s string) (api.Token, bool) {
	size := count(s, isDigit)
	if size < len(s) && inWord(s[size]) {
		return api.Token{}, false
	}
	word, ok := value(s[:size])
	if !ok {
		return api.Token{}, false
	}
	token := newToken(api.TInt, s[:size])
	token.Int = word
	return token, true
}

// value returns the value of decimal digits as a word; false if it is too great. It stops before the value could wrap around, however many digits follow.
func value(digits string) (int32, bool) {
	sum := int64(0)
	for i := range len(digits) {
		sum = sum*10 + int64(digits[i]-'0')
		if sum > greatest {
			return 0, false
		}
	}
	return int32(sum), true
}

// readSign returns the longest sign with which s begins, and whether there is one.
func readSign(s string) (api.Token, bool) {
	for _, sign := range signs {
		if len(sign) <= len(s) && s[:len(sign)] == sign {
			return newToken(api.TSign, sign), true
		}
	}
	return api.Token{}, false
}

// newToken returns a token with a copy of text, because a part of the source would keep all of the source alive.
func newToken(kind int, text string) api.Token {
	return api.Token{Kind: kind, Text: string([]byte(text))}
}
