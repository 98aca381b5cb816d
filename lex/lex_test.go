package lex_test

import (
	"slices"
	"strings"
	"testing"

	"drawloom/api"
	"drawloom/lex"
)

// withoutAt returns a copy of tokens whose At is 0.
func withoutAt(l []api.Token) []api.Token {
	l = slices.Clone(l)
	for i := range l {
		l[i].At = 0
	}
	return l
}

// good calls check with every text that has tokens only, and with its tokens.
func good(t *testing.T, check func(s string, l []api.Token)) {
	t.Helper()
	texts := 0
	everyText(func(s string) {
		if l, _, e := lex.Tokens(s); e == api.OK {
			texts++
			check(s, l)
		}
	})
	if texts < 1000 {
		t.Errorf("only %d texts without an error", texts)
	}
}

func TestThereAndBack(t *testing.T) { // P2.1
	good(t, func(s string, l []api.Token) {
		joined := lex.Join(l)
		if len(joined) > api.MaxText {
			return
		}
		back, at, e := lex.Tokens(joined)
		if e != api.OK || at != 0 || !slices.Equal(withoutAt(back), withoutAt(l)) {
			t.Errorf("%q: %q yields %v, %d, %d, want %v", s, joined, back, at, e, l)
		}
	})
}

func TestCover(t *testing.T) { // P2.2
	good(t, func(s string, l []api.Token) {
		end := 0
		for _, token := range l {
			if token.At < end || !strings.HasPrefix(s[token.At:], token.Text) || token.Text == "" {
				t.Fatalf("%q: %v is not the text at %d", s, token, token.At)
			}
			if gap := s[end:token.At]; !gapShape.MatchString(gap) {
				t.Errorf("%q: %q before %v", s, gap, token)
			}
			end = token.At + len(token.Text)
		}
		if !tailShape.MatchString(s[end:]) {
			t.Errorf("%q: %q after the last token", s, s[end:])
		}
	})
}

// spread returns a text of the tokens with the gap between them and around them, and these tokens with their At there.
func spread(l []api.Token, gap string) (string, []api.Token) {
	text := gap
	moved := slices.Clone(l)
	for i := range moved {
		moved[i].At = len(text)
		text += moved[i].Text + gap
	}
	return text, moved
}

func TestBlanks(t *testing.T) { // P2.3
	good(t, func(s string, l []api.Token) {
		for _, gap := range []string{" ", "\t", "\n", "\r", " \t\r\n", "#\n", "# a # \"1\r\x00\xff\n", "\n#x\n\n#;\n "} {
			text, want := spread(l, gap)
			if len(text) > api.MaxText {
				continue
			}
			got, at, e := lex.Tokens(text)
			if e != api.OK || at != 0 || !slices.Equal(got, want) {
				t.Errorf("%q with %q between its tokens: %v, %d, %d, want %v", s, gap, got, at, e, want)
			}
		}
	})
}

func TestLongest(t *testing.T) { // P2.4
	good(t, func(s string, l []api.Token) {
		for _, token := range l {
			rest := s[token.At+len(token.Text):]
			if rest == "" {
				continue
			}
			more := token.Text + rest[:1]
			if isSign(more) || isWord(token.Text) && isWord(more) || isInteger(token.Text) && isWord("a"+rest[:1]) {
				t.Errorf("%q: %v goes on with %q", s, token, rest[:1])
			}
		}
	})
}

// byDefinition compares tokens, error and index with those of the definition.
func byDefinition(t *testing.T, s string) {
	t.Helper()
	want, wantAt, wantE := wantTokens(s)
	if l, at, e := lex.Tokens(s); !slices.Equal(l, want) || at != wantAt || e != wantE {
		t.Errorf("%q: %v, %d, %d, want %v, %d, %d", s, l, at, e, want, wantAt, wantE)
	}
}

func TestByDefinition(t *testing.T) {
	everyText(func(s string) { byDefinition(t, s) })
}

func TestExamples(t *testing.T) {
	l, at, e := lex.Tokens("a>>>=b")
	want := []api.Token{
		{Kind: api.TName, At: 0, Text: "a"}, {Kind: api.TSign, At: 1, Text: ">>>"},
		{Kind: api.TSign, At: 4, Text: "="}, {Kind: api.TName, At: 5, Text: "b"},
	}
	if !slices.Equal(l, want) || at != 0 || e != api.OK {
		t.Errorf("%v, %d, %d, want %v", l, at, e, want)
	}
	l, at, e = lex.Tokens("let x1 = 10; # ten")
	want = []api.Token{
		{Kind: api.TSign, At: 0, Text: "let"}, {Kind: api.TName, At: 4, Text: "x1"}, {Kind: api.TSign, At: 7, Text: "="},
		{Kind: api.TInt, At: 9, Text: "10", Int: 10}, {Kind: api.TSign, At: 11, Text: ";"},
	}
	if !slices.Equal(l, want) || at != 0 || e != api.OK {
		t.Errorf("%v, %d, %d, want %v", l, at, e, want)
	}
}

func TestNoTokens(t *testing.T) {
	for _, s := range []string{"", " ", "\t", "\n", "\r", "#", "# let 1", "#\n", " # a\r\n\t# b"} {
		if l, at, e := lex.Tokens(s); len(l) != 0 || at != 0 || e != api.OK {
			t.Errorf("%q: %v, %d, %d", s, l, at, e)
		}
	}
}

func TestErrors(t *testing.T) {
	for s, want := range map[string]int{
		"$": 0, "a $": 2, "a$": 1, "1$": 1, ";$;": 1, "# $\n$": 4, "\x00": 0, "a\x00": 1, "\v": 0, "a\f": 1, "\"": 0, "a.b": 1, "a'": 1, "?": 0, "@": 0, "\\": 0, "`": 0, "\x7f": 0,
		"_": 0, "_a": 0, "a _": 2, "+_1": 1, ":": 0, "a:b": 1, "<<:": 2, "<=:": 2, "<::": 2, "< :": 2,
		"12a": 0, "a 12a": 2, "0x10": 0, "1_000": 0, "1_": 0, "(1e5)": 1, "1let": 0, "12A3": 0, "00z": 0, "1\u00e9": 1, "1 _": 2,
		"2147483649": 0, "-2147483649": 1, "a 2147483649": 2, "2147483650": 0, "4294967295": 0, "4294967296": 0, "4294967297": 0,
		"9223372036854775808": 0, "18446744073709551616": 0, "18446744073709551617": 0, "340282366920938463463374607431768211456": 0, "02147483649": 0, "2147483649a": 0, "2147483648a": 0,
		"abcdefghijklmnopq": 0, "a abcdefghijklmnopq": 2, "continuecontinue_": 0, "A234567890123456_": 0, "abcdefghijklmnopq$": 0,
		"\u00e9": 0, "a\u00e9": 1, "\u00a0": 0, "a\u2028b": 1, "\xff": 0, "a \xfe": 2, "\ufeffa": 0, "\u0661": 0, "\uff41": 0,
		"$ 12a": 0, "12a $": 0, "a # b\n 3c $": 7,
	} {
		if l, at, e := lex.Tokens(s); len(l) != 0 || at != want || e != api.ErrParse {
			t.Errorf("%q: %v, %d, %d, want an ErrParse at %d", s, l, at, e, want)
		}
	}
}

// TestBytes puts every byte alone, after each kind of token, and into a comment.
func TestBytes(t *testing.T) {
	for c := range 256 {
		s := string([]byte{byte(c)})
		for _, text := range []string{s, "a" + s, "7" + s, ";" + s, "a " + s + " b", s + "a", s + "=", "#" + s, "#" + s + "\na", "a#" + s} {
			byDefinition(t, text)
		}
	}
}

func TestSize(t *testing.T) {
	for _, s := range []string{strings.Repeat(" ", 4000), strings.Repeat(";", 4000), strings.Repeat("0", 4000), strings.Repeat("a\n", 2000), "#" + strings.Repeat("$", 3999), "a" + strings.Repeat(" ", 3998) + "b", "#" + strings.Repeat("\u00e9", 1999) + "\n"} {
		l, at, e := lex.Tokens(s)
		if want, _, _ := wantTokens(s); !slices.Equal(l, want) || at != 0 || e != api.OK {
			t.Errorf("%d bytes, %.5q..: %d tokens, %d, %d", len(s), s, len(l), at, e)
		}
		for _, longer := range []string{s + " ", " " + s, "$" + s, s + "$", s + s} {
			if l, at, e := lex.Tokens(longer); len(l) != 0 || at != 0 || e != api.ErrSize {
				t.Errorf("%d bytes, %.5q..: %d tokens, %d, %d", len(longer), longer, len(l), at, e)
			}
		}
	}
}
