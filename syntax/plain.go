package syntax

import (
	"strconv"
	"strings"

	"rummage/api"
)

// writer lays tokens one behind the other, with blanks where the plain form
// has them.
type writer struct {
	text  strings.Builder
	tight bool // no blank ahead of the next token, whatever it is
}

// Plain writes the plain form of a tree that Read gave (P4).
func (t Tree) Plain() string {
	w := &writer{tight: true}
	w.tree(t)
	return w.text.String()
}

func (w *writer) token(text string) {
	if !w.tight && text != ")" && text != "," {
		w.text.WriteByte(' ')
	}
	w.text.WriteString(text)
	w.tight = text == "("
}

func (w *writer) tree(t Tree) {
	switch t.Kind {
	case Or:
		w.chain("or", t)
	case And:
		w.chain("and", t)
	case Not:
		w.token("not")
		w.part(Not, t.Parts[0])
	case Test:
		w.test(t)
	}
}

func (w *writer) chain(joint string, t Tree) {
	for i, part := range t.Parts {
		if i > 0 {
			w.token(joint)
		}
		w.part(t.Kind, part)
	}
}

// part writes a part of a tree of the kind whole. A part of the same kind
// needs no brackets: side by side or in one another, it says the same.
func (w *writer) part(whole Kind, part Tree) {
	if part.Kind >= whole {
		w.tree(part)
		return
	}
	w.token("(")
	w.tree(part)
	w.token(")")
}

func (w *writer) test(t Tree) {
	w.token(t.Name)
	w.token(t.Operator)
	switch t.Operator {
	case "in":
		w.list(t.Literals)
	case "is":
		w.token("null")
	default:
		w.token(literal(t.Literals[0].Value))
	}
}

func (w *writer) list(literals []Literal) {
	w.token("(")
	for i, l := range literals {
		if i > 0 {
			w.token(",")
		}
		w.token(literal(l.Value))
	}
	w.token(")")
}

// literal writes a value with its quotes, which keep a string that looks
// like a bracket or a comma from being laid as one.
func literal(value api.Value) string {
	if value.Kind == api.Number {
		return strconv.Itoa(value.N)
	}
	return `"` + value.S + `"`
}
