package syntax

import (
	"strconv"
	"strings"

	"rummage/api"
)

type tokenKind int

const (
	end tokenKind = iota
	wrong
	word
	number
	quoted
	sign
)

// maxDigits: as many as MaxNumber has; noughts ahead count too.
const maxDigits = 7

// token: its text is as it stands in the filter, with a string's quotes, so
// that no string can be taken for a word or a sign. A wrong one has no text.
type token struct {
	kind tokenKind
	text string
	at   int
}

// signs has the longer ones first: a token is the longest that begins there.
var signs = [...]string{"!=", "<=", ">=", "=", "<", ">", "(", ")", ","}

// tokenFrom reads the first token at or behind the place from.
func tokenFrom(filter string, from int) token {
	at := from
	for at < len(filter) && filter[at] == ' ' {
		at++
	}
	if at == len(filter) {
		return token{kind: end, at: at}
	}
	kind, length := measure(filter[at:])
	if kind == wrong {
		return token{kind: wrong, at: at}
	}
	return token{kind: kind, text: filter[at : at+length], at: at}
}

// measure tells the kind and the length of the token that rest begins with.
func measure(rest string) (tokenKind, int) {
	switch first := rest[0]; {
	case isLetter(first):
		return measureWord(rest)
	case first == '-' || isDigit(first):
		return measureNumber(rest)
	case first == '"':
		return measureQuoted(rest)
	}
	return measureSign(rest)
}

func measureWord(rest string) (tokenKind, int) {
	letters := countAhead(rest, isLetter)
	if letters > api.MaxName {
		return wrong, 0
	}
	return word, letters
}

func measureNumber(rest string) (tokenKind, int) {
	minus := 0
	if rest[0] == '-' {
		minus = 1
	}
	digits := countAhead(rest[minus:], isDigit)
	if digits == 0 || digits > maxDigits {
		return wrong, 0
	}
	return number, minus + digits
}

func measureQuoted(rest string) (tokenKind, int) {
	inside := strings.IndexByte(rest[1:], '"')
	if inside < 0 || inside > api.MaxString {
		return wrong, 0
	}
	return quoted, inside + 2
}

func measureSign(rest string) (tokenKind, int) {
	for _, s := range signs {
		if strings.HasPrefix(rest, s) {
			return sign, len(s)
		}
	}
	return wrong, 0
}

// countAhead tells how many bytes at the beginning of text belong.
func countAhead(text string, belongs func(byte) bool) int {
	n := 0
	for n < len(text) && belongs(text[n]) {
		n++
	}
	return n
}

func isLetter(b byte) bool { return 'a' <= b && b <= 'z' }

func isDigit(b byte) bool { return '0' <= b && b <= '9' }

// IsName tells whether the whole text is a name.
func IsName(text string) bool {
	t := tokenFrom(text, 0)
	return t.isName() && t.text == text
}

// isName tells whether a test may begin with the token.
func (t token) isName() bool {
	if t.kind != word {
		return false
	}
	switch t.text {
	case "and", "or", "not", "in", "like", "is", "null":
		return false
	}
	return true
}

// compares tells whether the token is a sign between a name and a literal.
func (t token) compares() bool {
	switch t.text {
	case "=", "!=", "<", "<=", ">", ">=":
		return true
	}
	return false
}

// value gives what a number or a quoted string says.
func (t token) value() api.Value {
	if t.kind == number {
		// No more than maxDigits digits, so that this cannot fail.
		n, _ := strconv.Atoi(t.text)
		return api.Value{Kind: api.Number, N: n}
	}
	return api.Value{Kind: api.String, S: t.text[1 : len(t.text)-1]}
}
