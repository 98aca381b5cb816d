package lex_test

import (
	"slices"
	"strings"
	"testing"

	"drawloom/api"
	"drawloom/lex"
)

// one checks that a text is one token.
func one(t *testing.T, s string, kind int, word int32) {
	t.Helper()
	l, at, e := lex.Tokens(s)
	want := []api.Token{{Kind: kind, Text: s, Int: word}}
	if !slices.Equal(l, want) || at != 0 || e != api.OK {
		t.Errorf("%.50q: %v, %d, %d, want %v", s, l, at, e, want)
	}
}

func TestWords(t *testing.T) {
	for _, s := range languageWords {
		one(t, s, api.TSign, 0)
		one(t, s+"s", api.TName, 0)
		one(t, s+"_", api.TName, 0)
		one(t, s+"0", api.TName, 0)
		one(t, s+s, api.TName, 0)
		one(t, s[:len(s)-1], api.TName, 0)
		one(t, strings.ToUpper(s), api.TName, 0)
		one(t, strings.ToUpper(s[:1])+s[1:], api.TName, 0)
	}
	for _, s := range []string{"a", "z", "A", "Z", "a0", "a9", "a_", "a__", "x1", "for", "var", "fn", "not", "sub", "mul", "true", "abcdefghijklmnop", "A234567890123456", "a_______________"} {
		one(t, s, api.TName, 0)
	}
}

func TestIntegers(t *testing.T) {
	for s, want := range map[string]int32{
		"0": 0, "1": 1, "9": 9, "10": 10, "123456789": 123456789, "2147483646": 2147483646, "2147483647": 2147483647, "2147483648": -2147483648,
		"00": 0, "007": 7, "0000000000000000000000001": 1, "02147483648": -2147483648,
		strings.Repeat("0", 4000): 0, strings.Repeat("0", 3990) + "2147483647": 2147483647, strings.Repeat("0", 3990) + "2147483648": -2147483648,
	} {
		one(t, s, api.TInt, want)
	}
	s := strings.Repeat("0", 3990) + "2147483649"
	if l, at, e := lex.Tokens(s); len(l) != 0 || at != 0 || e != api.ErrParse {
		t.Errorf("2147483649 with zeros before it: %v, %d, %d", l, at, e)
	}
}

// TestSigns checks each sign alone, and each pair of signs without and with a blank between them.
func TestSigns(t *testing.T) {
	for _, a := range signs {
		one(t, a, api.TSign, 0)
		for _, b := range signs {
			byDefinition(t, a+b) // not always two signs: < and <: are << and a byte of no token
			want := []api.Token{{Kind: api.TSign, Text: a}, {Kind: api.TSign, At: len(a) + 1, Text: b}}
			if l, at, e := lex.Tokens(a + " " + b); !slices.Equal(l, want) || at != 0 || e != api.OK {
				t.Errorf("%q: %v, %d, %d, want %v", a+" "+b, l, at, e, want)
			}
		}
	}
	for s, want := range map[string]string{
		"<<=": "<< =", ">>>=": ">>> =", ">>>>": ">>> >", ">>>>>>": ">>> >>>", ">>=": ">> =", ">=>": ">= >", "===": "== =", "!==": "!= =", "!!=": "! !=", "=!=": "= !=",
		"&&&": "&& &", "|||": "|| |", "<<<:": "<< <:", "<<<": "<< <", "<==": "<= =", "-->": "- - >", "<-": "< -", "~~": "~ ~", "()": "( )",
	} {
		l, _, e := lex.Tokens(s)
		if got := lex.Join(l); got != want || e != api.OK {
			t.Errorf("%q: %q, %d, want %q", s, got, e, want)
		}
	}
}

func TestName(t *testing.T) {
	names := []string{"a", "Z", "a_1", "A_", "x9", "lets", "Let", "LET", "i", "or_", "abcdefghijklmnop", "a23456789012345_", "continuecontinue"}
	for _, s := range names {
		if !lex.Name(s) {
			t.Errorf("%q is no name", s)
		}
	}
	others := []string{
		"", "_", "_a", "1", "1a", "9_", "abcdefghijklmnopq", "continuecontinue_", strings.Repeat("a", 4000), strings.Repeat("a", 5000),
		" a", "a ", "a b", "a\n", "\ta", "a#", "#a", "a;", "a-b", "-a", "a.b", "a\x00", "\x00", "\u00e9", "a\u00e9", "\xff", "a\xff", "\u0410", "a\u0661", "$", "+", "let x", "a,b",
	}
	for _, s := range slices.Concat(others, languageWords, signs) {
		if lex.Name(s) {
			t.Errorf("%q is a name", s)
		}
	}
	everyText(func(s string) {
		if want := isWord(s) && !isLanguageWord(s) && len(s) <= 16; lex.Name(s) != want {
			t.Errorf("Name(%q) is %v", s, !want)
		}
	})
}

func TestJoin(t *testing.T) {
	for _, x := range []struct {
		texts []string
		want  string
	}{
		{nil, ""}, {[]string{}, ""}, {[]string{""}, ""}, {[]string{"", ""}, " "}, {[]string{"a"}, "a"}, {[]string{"a", "b"}, "a b"}, {[]string{"a", "", "b"}, "a  b"},
		{[]string{" ", "#", "\n"}, "  # \n"}, {[]string{"let x", "$", "\xff\x00"}, "let x $ \xff\x00"}, {[]string{">>>", "=", "1"}, ">>> = 1"},
		{[]string{strings.Repeat("a", 5000), "b"}, strings.Repeat("a", 5000) + " b"},
	} {
		var l []api.Token
		for i, text := range x.texts {
			l = append(l, api.Token{Kind: i - 1, At: -7 * i, Text: text, Int: 5})
		}
		before := slices.Clone(l)
		if got := lex.Join(l); got != x.want {
			t.Errorf("%.50q: %.50q, want %.50q", x.texts, got, x.want)
		}
		if !slices.Equal(l, before) {
			t.Errorf("%.50q: the tokens are changed", x.texts)
		}
	}
}

// TestNewMemory changes the tokens of one call: those of the next call stay what they are.
func TestNewMemory(t *testing.T) {
	s := "let a = 1;"
	first, _, _ := lex.Tokens(s)
	want := slices.Clone(first)
	second, _, _ := lex.Tokens(s)
	clear(first)
	third, _, _ := lex.Tokens(s)
	if len(want) != 5 || !slices.Equal(second, want) || !slices.Equal(third, want) {
		t.Errorf("%v and %v, want %v", second, third, want)
	}
}
