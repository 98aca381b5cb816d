package lex_test

import (
	"math/rand"
	"strings"
)

// sources are texts of which the promises are tested: programs, texts without blanks, and texts at the limits.
var sources = []string{
	"", " ", "\t\n\r ", "#", "# only a comment", "#\n", "##\n#\n",
	"a", "0", "let", "(", "a>>>=b", "let x1 = 10; # ten", "a#b\nc", "a# b # c", "1#2\n3", "a#\x00\xff\u00e9 $ \"`\r;\nb",
	"func f(a,b){return(a+b)*-c%2;}kernel k(buffer a,int n){shared s[64];a[tid]=min(1,n)<:2;barrier;}",
	"kernel k ( buffer a ) { a [ 0 ] = tid ; }",
	"kernel k(buffer a){ # store\r\n\tlet i=tid+bid*dim;\n\twhile i<256{atomic add a[i],i>>1;i=i+dim*grid;if i==9{break;}else{continue;}}\n\tcollect i=xor~i;\n}# end",
	"<<=>>>=>>=<=<:<<:", "&&&|||!!=~!===", "a&b&&c|d||e^f", ">>>>>", "1-1", "-2147483648", "2147483648", "2147483647", "007", "0 00 000",
	"lets Let LET iff _", "a_1 A_ z__9 Zz0", "abcdefghijklmnop", "abcdefghijklmnopq", "if1 1if", "12a", "12_", "1 a", "$", "a $ b", "a:b", "\u00e9", "a\u00e9", "1\u00e9",
	strings.Repeat("a ", 2000), strings.Repeat("a;", 2000), strings.Repeat("9", 10), strings.Repeat("0", 4000), strings.Repeat("#", 4000), strings.Repeat("+", 4000),
	strings.Repeat(" ", 3999) + "$", strings.Repeat(" ", 4000) + "$", strings.Repeat("0", 4001), strings.Repeat("a", 4001),
}

// pieces are what long texts are made of.
var pieces = strings.Fields("a x1 abcdefghijklmnop _ 0 1 42 2147483648 002147483648 let if or xor int tid ( ) { } [ ] , ; = + - * / % & | ^ ~ ! < > << >> >>> <= >= == != <: && ||")

// gaps are what may stand between the pieces.
var gaps = []string{"", "", "", " ", "\n", "\t", "\r", "  ", "#\n", "# a 1 $ _\n", "#\r\n", "\n#x\n#y\n"}

// short calls check with all texts of at most size of the bytes of an alphabet.
func short(alphabet string, size int, check func(s string)) {
	level := []string{""}
	for range size {
		var longer []string
		for _, s := range level {
			check(s)
			for i := range len(alphabet) {
				longer = append(longer, s+alphabet[i:i+1])
			}
		}
		level = longer
	}
	for _, s := range level {
		check(s)
	}
}

// long calls check with texts that are put together from pieces and gaps, the same ones each time.
func long(check func(s string)) {
	choice := rand.New(rand.NewSource(2))
	for range 400 {
		var text strings.Builder
		for range choice.Intn(80) {
			text.WriteString(pieces[choice.Intn(len(pieces))])
			text.WriteString(gaps[choice.Intn(len(gaps))])
		}
		check(text.String())
	}
}

// everyText calls check with the sources, with all short texts over signs and over the bytes of other tokens, and with the long texts.
func everyText(check func(s string)) {
	for _, s := range sources {
		check(s)
	}
	short("<>=!&|:", 4, check)
	short("aZ_10 #\n$-", 4, check)
	long(check)
}
