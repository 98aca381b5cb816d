package syntax_test

import (
	"fmt"
	"regexp"
	"slices"
	"strings"
)

// chapterGrammar is the grammar of the chapter, with its levels written out.
const chapterGrammar = `
program = { function | kernel }
function = "func" name "(" [ name { "," name } ] ")" block
kernel = "kernel" name "(" [ param { "," param } ] ")" "{" { shared } { statement } "}"
param = ( "buffer" | "int" ) name
shared = "shared" name "[" integer "]" ";"
block = "{" { statement } "}"
statement = "let" name "=" expr ";" | name "=" expr ";" | name "[" expr "]" "=" expr ";" | "if" expr block [ "else" block ] | "while" expr block | "break" ";" | "continue" ";" | "return" [ expr ] ";" | "barrier" ";" | "atomic" fold name "[" expr "]" "," expr ";" | "collect" name "=" fold expr ";"
fold = "add" | "min" | "max" | "and" | "or" | "xor"
expr = level1
level1 = level2 { "||" level2 }
level2 = level3 { "&&" level3 }
level3 = level4 { "|" level4 }
level4 = level5 { "^" level5 }
level5 = level6 { "&" level6 }
level6 = level7 { ( "==" | "!=" ) level7 }
level7 = level8 { ( "<" | "<=" | ">" | ">=" | "<:" ) level8 }
level8 = level9 { ( "<<" | ">>" | ">>>" ) level9 }
level9 = level10 { ( "+" | "-" ) level10 }
level10 = level11 { ( "*" | "/" | "%" ) level11 }
level11 = ( "-" | "~" | "!" ) level11 | primary
primary = integer | name | name "[" expr "]" | name "(" [ expr { "," expr } ] ")" | "(" expr ")" | "tid" | "bid" | "dim" | "grid" | ( "min" | "max" ) "(" expr "," expr ")"
`

// grammar is a grammar without brackets: alternatives of symbols by their name. A symbol without alternatives is a token: a quoted one, name or integer.
type grammar map[string][][]string

// ruleReader reads the right side of a rule; it gives names to what stands in brackets.
type ruleReader struct {
	words []string
	rules grammar
}

// readGrammar reads the chapter's grammar.
func readGrammar() grammar {
	rules := grammar{}
	for _, line := range strings.Split(strings.TrimSpace(chapterGrammar), "\n") {
		name, right, _ := strings.Cut(line, " = ")
		r := &ruleReader{strings.Fields(right), rules}
		rules[name] = r.alternatives()
	}
	return rules
}

// alternatives reads alternatives up to a closing bracket or the end.
func (r *ruleReader) alternatives() [][]string {
	all := [][]string{nil}
	for len(r.words) > 0 {
		word := r.words[0]
		r.words = r.words[1:]
		last := len(all) - 1
		switch word {
		case "}", "]", ")":
			return all
		case "|":
			all = append(all, nil)
		case "{", "[", "(":
			all[last] = append(all[last], r.bracket(word))
		default:
			all[last] = append(all[last], word)
		}
	}
	return all
}

// bracket reads what stands in a bracket and returns the name that it gets.
func (r *ruleReader) bracket(open string) string {
	inner := r.alternatives()
	name := fmt.Sprint(open, len(r.rules)) // new, since each name is given to one more rule
	switch open {
	case "{":
		for i := range inner {
			inner[i] = append([]string{name}, inner[i]...)
		}
		inner = append(inner, nil)
	case "[":
		inner = append(inner, nil)
	}
	r.rules[name] = inner
	return name
}

// item is a place in an alternative of a symbol that began before a token.
type item struct {
	symbol       string
	which, place int
	begin        int
}

// chart is what Earley's algorithm knows of the tokens so far: the items before each token and at the end.
type chart struct {
	rules grammar
	start string
	sets  [][]item
}

func newChart(rules grammar, start string) *chart {
	c := &chart{rules, start, [][]item{nil}}
	for which := range rules[start] {
		c.add(item{symbol: start, which: which})
	}
	c.close()
	return c
}

func (c *chart) last() []item { return c.sets[len(c.sets)-1] }

func (c *chart) add(x item) {
	if last := len(c.sets) - 1; !slices.Contains(c.sets[last], x) {
		c.sets[last] = append(c.sets[last], x)
	}
}

// next returns the symbol at the place of an item; nothing at the end of its alternative.
func (c *chart) next(x item) string {
	if symbols := c.rules[x.symbol][x.which]; x.place < len(symbols) {
		return symbols[x.place]
	}
	return ""
}

func moved(x item) item {
	x.place++
	return x
}

// close adds the items that follow from those of the last set, until there are no more.
func (c *chart) close() {
	here := len(c.sets) - 1
	for size := -1; size != len(c.last()); {
		size = len(c.last())
		for i := 0; i < len(c.last()); i++ {
			x := c.last()[i]
			symbol := c.next(x)
			for which := range c.rules[symbol] {
				c.add(item{symbol: symbol, which: which, begin: here})
			}
			if symbol != "" {
				continue
			}
			for k := 0; k < len(c.sets[x.begin]); k++ {
				if y := c.sets[x.begin][k]; c.next(y) == x.symbol {
					c.add(moved(y))
				}
			}
		}
	}
}

// expected returns the tokens that can follow.
func (c *chart) expected() map[string]bool {
	tokens := map[string]bool{}
	for _, x := range c.last() {
		if symbol := c.next(x); symbol != "" && c.rules[symbol] == nil {
			tokens[symbol] = true
		}
	}
	return tokens
}

// complete reports whether the tokens so far are complete.
func (c *chart) complete() bool {
	return slices.ContainsFunc(c.last(), func(x item) bool { return x.symbol == c.start && x.begin == 0 && c.next(x) == "" })
}

// extend adds a token that is expected.
func (c *chart) extend(token string) {
	var set []item
	for _, x := range c.last() {
		if c.next(x) == token {
			set = append(set, moved(x))
		}
	}
	c.sets = append(c.sets, set)
	c.close()
}

var (
	nameShape    = regexp.MustCompile(`^[A-Za-z][A-Za-z0-9_]*$`)
	integerShape = regexp.MustCompile(`^[0-9]+$`)
	wordsOfAll   = strings.Fields("func kernel buffer int shared let if else while break continue return barrier atomic collect tid bid dim grid min max add and or xor")
)

// symbolOf returns the symbol of the grammar of a token's text.
func symbolOf(text string) string {
	switch {
	case integerShape.MatchString(text):
		return "integer"
	case nameShape.MatchString(text) && !slices.Contains(wordsOfAll, text):
		return "name"
	}
	return `"` + text + `"`
}

// misfitOf returns the index of the first of some tokens that cannot continue what is before it, or their number if more are needed, or -1 if they follow the grammar.
func misfitOf(rules grammar, start string, texts []string) int {
	c := newChart(rules, start)
	for i, text := range texts {
		symbol := symbolOf(text)
		if !c.expected()[symbol] {
			return i
		}
		c.extend(symbol)
	}
	if c.complete() {
		return -1
	}
	return len(texts)
}
