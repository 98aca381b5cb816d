package lex_test

import (
	"regexp"
	"slices"
	"strconv"
	"strings"

	"drawloom/api"
)

// The chapter's definitions, written down once more without the program's way.

var languageWords = strings.Fields("func kernel buffer int shared let if else while break continue return barrier atomic collect tid bid dim grid min max add and or xor")

var signs = strings.Fields("( ) { } [ ] , ; = + - * / % & | ^ ~ ! < > << >> >>> <= >= == != <: && ||")

var (
	wordShape    = regexp.MustCompile(`^[A-Za-z][A-Za-z0-9_]*$`)
	integerShape = regexp.MustCompile(`^[0-9]+$`)
	firstWord    = regexp.MustCompile(`^[A-Za-z][A-Za-z0-9_]*`)
	firstInteger = regexp.MustCompile(`^[0-9]+`)
	intoInteger  = regexp.MustCompile(`^[A-Za-z_]`)
	gapShape     = regexp.MustCompile(`^([ \t\n\r]|#[^\n]*\n)*$`)
	tailShape    = regexp.MustCompile(`^([ \t\n\r]|#[^\n]*\n)*(#[^\n]*)?$`)
)

func isSign(s string) bool { return slices.Contains(signs, s) }

func isWord(s string) bool { return wordShape.MatchString(s) }

func isInteger(s string) bool { return integerShape.MatchString(s) }

func isLanguageWord(s string) bool { return slices.Contains(languageWords, s) }

// longest returns the longest token with which s begins, without the limits of names and integers.
func longest(s string) string {
	text := firstWord.FindString(s) + firstInteger.FindString(s)
	for _, sign := range signs {
		if strings.HasPrefix(s, sign) && len(sign) > len(text) {
			text = sign
		}
	}
	return text
}

// wantToken returns the token of a text that is followed by rest, and whether it is one.
func wantToken(text, rest string) (api.Token, bool) {
	switch {
	case text == "":
		return api.Token{}, false
	case isInteger(text):
		value, err := strconv.ParseUint("0"+strings.TrimLeft(text, "0"), 10, 64)
		return api.Token{Kind: api.TInt, Text: text, Int: int32(value)}, err == nil && value <= 2147483648 && !intoInteger.MatchString(rest)
	case isSign(text) || isLanguageWord(text):
		return api.Token{Kind: api.TSign, Text: text}, true
	}
	return api.Token{Kind: api.TName, Text: text}, len(text) <= 16
}

// wantTokens returns what Tokens returns by the chapter.
func wantTokens(s string) ([]api.Token, int, api.Errno) {
	if len(s) > 4000 {
		return nil, 0, api.ErrSize
	}
	var l []api.Token
	for at := 0; at < len(s); {
		if strings.IndexByte(" \t\n\r", s[at]) >= 0 {
			at++
			continue
		}
		if s[at] == '#' {
			line, _, _ := strings.Cut(s[at:], "\n")
			at += len(line)
			continue
		}
		text := longest(s[at:])
		token, ok := wantToken(text, s[at+len(text):])
		if !ok {
			return nil, at, api.ErrParse
		}
		token.At = at
		l = append(l, token)
		at += len(text)
	}
	return l, 0, api.OK
}
