package rummage

import (
	"strings"
	"testing"

	"rummage/api"
)

// The tests here hold Plain against a second reading of the document that
// goes over rows of tokens with a stack, and knows nothing of package syntax.

// row is a list of tokens, laid out as a text, with the place of each.
type row struct {
	tokens []string
	places []int
	text   string
}

// lay writes tokens one behind the other: with no blank where two can stand
// without one and tight says so, else with one.
func lay(tokens []string, tight func() bool) row {
	r := row{tokens: tokens}
	for i, token := range tokens {
		if i > 0 && (grow(tokens[i-1], token) || !tight()) {
			r.text += " "
		}
		r.places = append(r.places, len(r.text))
		r.text += token
	}
	return r
}

// grow tells whether two tokens, laid together, would be read otherwise.
func grow(left, right string) bool {
	const letters, digits = "abcdefghijklmnopqrstuvwxyz", "-0123456789"
	last, first := left[len(left)-1:], right[:1]
	return strings.Contains(letters, last) && strings.Contains(letters, first) ||
		strings.Contains(digits, last) && strings.Contains(digits, first) ||
		strings.Contains("<>!", last) && first == "="
}

func isLiteral(token string) bool {
	return token == "1" || token == "-07" || token == `"x"`
}

func isName(token string) bool { return token == "a" || token == "b" }

// follow gives the state behind a test's token, or "" if it cannot stand.
func follow(state, token string) string {
	switch {
	case state == "part" && isName(token):
		return "operator"
	case state == "operator" && (token == "=" || token == "<="):
		return "literal"
	case state == "operator" && (token == "in" || token == "like" || token == "is"):
		return token
	case state == "in" && token == "(":
		return "item"
	case state == "item" && isLiteral(token):
		return "comma"
	case state == "comma" && token == ",":
		return "item"
	case state == "comma" && token == ")",
		state == "literal" && isLiteral(token),
		state == "like" && token == `"x"`,
		state == "is" && token == "null":
		return "behind"
	}
	return ""
}

// oracle tells the error of a row and its place, as P3 says.
func oracle(r row) (api.Errno, int) {
	state := "part"
	var open []string
	for i, token := range r.tokens {
		switch {
		case state == "part" && (token == "not" || token == "("):
			if len(open) == api.MaxDepth {
				return api.ErrDeep, r.places[i]
			}
			open = append(open, token)
		case state == "behind" && (token == "and" || token == "or"):
			state = "part"
		case state == "behind" && token == ")" && len(open) > 0:
			open = open[:len(open)-1]
		default:
			state = follow(state, token)
		}
		if state == "" {
			return api.ErrText, r.places[i]
		}
		for state == "behind" && len(open) > 0 && open[len(open)-1] == "not" {
			open = open[:len(open)-1]
		}
	}
	if state != "behind" || len(open) > 0 {
		return api.ErrText, len(r.text)
	}
	return api.OK, 0
}

// strength: how closely a joint binds; a not binds closest.
func strength(joint string) int {
	return map[string]int{"(": 0, "or": 1, "and": 2, "not": 3}[joint]
}

// shape writes which parts belong together, with every bracket that says
// nothing left away. The row must be a filter; brackets of an in are told by
// the word ahead of them.
func shape(tokens []string) string {
	type part struct {
		joint string
		text  string
	}
	var parts []part
	var joints []string
	fold := func() {
		joint := joints[len(joints)-1]
		joints = joints[:len(joints)-1]
		right := parts[len(parts)-1]
		parts = parts[:len(parts)-1]
		if joint == "not" {
			parts = append(parts, part{"not", "not{" + right.text + "}"})
			return
		}
		left := parts[len(parts)-1]
		inner := func(p part) string {
			if p.joint == joint {
				return p.text[len(joint)+1 : len(p.text)-1]
			}
			return p.text
		}
		parts[len(parts)-1] = part{joint, joint + "{" + inner(left) + ";" + inner(right) + "}"}
	}
	for i := 0; i < len(tokens); i++ {
		switch token := tokens[i]; token {
		case "not", "(":
			joints = append(joints, token)
		case "and", "or":
			for len(joints) > 0 && strength(joints[len(joints)-1]) >= strength(token) {
				fold()
			}
			joints = append(joints, token)
		case ")":
			for joints[len(joints)-1] != "(" {
				fold()
			}
			joints = joints[:len(joints)-1]
		default:
			n := 3
			if tokens[i+1] == "in" {
				for tokens[i+n-1] != ")" {
					n++
				}
			}
			parts = append(parts, part{"", strings.Join(tokens[i:i+n], " ")})
			i += n - 1
		}
	}
	for len(joints) > 0 {
		fold()
	}
	return parts[0].text
}

// pairs gives the places of round brackets that belong together, those of an
// in apart.
func pairs(tokens []string) [][2]int {
	var found [][2]int
	var open []int
	for i, token := range tokens {
		if token == "(" {
			open = append(open, i)
		}
		if token == ")" {
			from := open[len(open)-1]
			open = open[:len(open)-1]
			if from == 0 || tokens[from-1] != "in" {
				found = append(found, [2]int{from, i})
			}
		}
	}
	return found
}

func without(tokens []string, pair [2]int) []string {
	var left []string
	for i, token := range tokens {
		if i != pair[0] && i != pair[1] {
			left = append(left, token)
		}
	}
	return left
}

// oraclePlain takes brackets away, a pair at a time, as long as what belongs
// together stays so, and then lays the tokens as the plain form has them.
func oraclePlain(tokens []string) string {
	want := shape(tokens)
	for again := true; again; {
		again = false
		for _, pair := range pairs(tokens) {
			if less := without(tokens, pair); shape(less) == want {
				tokens, again = less, true
				break
			}
		}
	}
	text := " " + strings.Join(tokens, " ") + " "
	for _, change := range [][2]string{{" -07 ", " -7 "}, {" ( ", " ("}, {"( ", "("}, {" )", ")"}, {" ,", ","}} {
		text = strings.ReplaceAll(text, change[0], change[1])
	}
	return strings.TrimSpace(text)
}

func checkRow(t *testing.T, r row) bool {
	t.Helper()
	errno, at := oracle(r)
	want := ""
	if errno == api.OK {
		want = oraclePlain(r.tokens)
	}
	got, gotErrno, gotAt := Plain(r.text)
	if got != want || gotErrno != errno || gotAt != at {
		t.Fatalf("Plain(%q) = %q, %d, %d, want %q, %d, %d", r.text, got, gotErrno, gotAt, want, errno, at)
	}
	return errno == api.OK
}

func alphabet() []string {
	return []string{"a", "b", "1", "-07", `"x"`, "=", "<=", "(", ")", ",", "and", "or", "not", "in", "like", "is", "null", "abcdefghi", "12345678", "!", "-", "\t"}
}

func TestP3EveryShortRow(t *testing.T) {
	words := alphabet()
	var tokens [4]string
	var fill func(n int)
	fill = func(n int) {
		for _, tight := range []bool{false, true} {
			checkRow(t, lay(tokens[:n], func() bool { return tight }))
		}
		if n == len(tokens) {
			return
		}
		for _, w := range words {
			tokens[n] = w
			fill(n + 1)
		}
	}
	fill(0)
}

// dice gives the same numbers on every run.
type dice uint32

func (d *dice) below(n int) int {
	*d = *d*1664525 + 1013904223
	return int(*d>>8) % n
}

func (d *dice) test() []string {
	name := []string{"a", "b"}[d.below(2)]
	switch d.below(5) {
	case 0:
		return []string{name, "is", "null"}
	case 1:
		return []string{name, "like", `"x"`}
	case 2:
		return []string{name, "in", "(", "1", ",", `"x"`, ")"}
	}
	return []string{name, "<=", "-07"}
}

// filter grows a filter, now and then one that is too deep.
func (d *dice) filter(size int) []string {
	if size == 0 {
		return d.test()
	}
	switch d.below(6) {
	case 0:
		return append([]string{"not"}, d.filter(size-1)...)
	case 1, 2:
		return append(append([]string{"("}, d.filter(size-1)...), ")")
	case 3:
		return d.filter(size - 1)
	}
	joint := []string{"and", "or"}[d.below(2)]
	return append(append(d.filter(size-1), joint), d.filter(size/2)...)
}

// mar changes, drops or doubles a token of a row.
func (d *dice) mar(tokens []string) []string {
	words := alphabet()
	i := d.below(len(tokens))
	out := append([]string{}, tokens[:i]...)
	switch d.below(3) {
	case 0:
		out = append(out, words[d.below(len(words))])
	case 1:
		out = append(out, tokens[i], tokens[i])
	}
	return append(out, tokens[i+1:]...)
}

func TestP3P4LongRows(t *testing.T) {
	d := dice(1)
	filters, deep := 0, 0
	for range 40000 {
		tokens := d.filter(1 + d.below(9))
		for _, r := range []row{
			lay(tokens, func() bool { return d.below(2) == 0 }),
			lay(d.mar(tokens), func() bool { return d.below(2) == 0 }),
		} {
			if len(r.text) > api.MaxFilter {
				continue
			}
			if checkRow(t, r) {
				filters++
			}
			if errno, _ := oracle(r); errno == api.ErrDeep {
				deep++
			}
		}
	}
	if filters < 10000 || deep < 100 {
		t.Errorf("only %d filters and %d too deep ones among the rows", filters, deep)
	}
}
