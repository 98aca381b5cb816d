package syntax

import (
	"drawloom/api"
	"drawloom/lex"
)

// end is the kind of the token that stands for the end of a text: no rule of the grammar takes it, so that nothing reads beyond it.
const end = -1

// misfit is what the parser panics with at a token that cannot go on.
const misfit = "a token that cannot continue the text"

// parser reads tokens from the first one to the last one, which is the end.
type parser struct {
	tokens []api.Token
	next   int
}

// parse returns what a rule of the grammar reads from all of a text, or an error and its index.
func parse[T any](s string, rule func(p *parser) T) (tree T, at int, e api.Errno) {
	tokens, at, e := lex.Tokens(s)
	if e != api.OK {
		return tree, at, e
	}
	p := &parser{tokens: append(tokens, api.Token{Kind: end, At: len(s)})}
	defer func() {
		if recover() != nil { // the parser stands at the token that it could not take
			at, e = p.token().At, api.ErrParse
		}
	}()
	all := rule(p)
	p.take(end)
	return all, 0, api.OK
}

// token returns the next token.
func (p *parser) token() api.Token { return p.tokens[p.next] }

// sees reports whether the next token is a sign.
func (p *parser) sees(sign string) bool { return p.token().Text == sign }

// skip takes the next token if it is a sign, and reports whether it did.
func (p *parser) skip(sign string) bool {
	if !p.sees(sign) {
		return false
	}
	p.next++
	return true
}

// want takes the next token, which must be a sign.
func (p *parser) want(sign string) {
	if !p.skip(sign) {
		panic(misfit)
	}
}

// take takes the next token, which must be of a kind.
func (p *parser) take(kind int) api.Token {
	token := p.token()
	if token.Kind != kind {
		panic(misfit)
	}
	p.next++
	return token
}

func (p *parser) name() string { return p.take(api.TName).Text }

// list reads items with commas between them, in round brackets.
func list[T any](p *parser, item func() T) []T {
	var items []T
	p.want("(")
	if p.skip(")") {
		return items
	}
	for {
		one := item()
		items = append(items, one)
		if p.skip(")") {
			return items
		}
		p.want(",")
	}
}

// repeated reads items as long as there are more of them.
func repeated[T any](more func() bool, item func() T) []T {
	var items []T
	for more() {
		one := item()
		items = append(items, one)
	}
	return items
}
