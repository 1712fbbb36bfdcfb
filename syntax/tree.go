// Package syntax reads filters, and writes them in their plain form.
package syntax

import "rummage/api"

// Kind: what a tree says of its parts, or that it is a test.
type Kind int

// From the loosest on: where a looser one is a part of a closer one, the
// plain form needs brackets.
const (
	Or Kind = iota
	And
	Not
	Test
)

// Tree is a filter without its brackets. An Or and an And have two parts or
// more, in the order of the text, a Not has one. A Test has no parts but a
// name, an operator (a sign, "in", "like" or "is") and literals: as many as
// there are behind an "in", none behind an "is", else one. The places, of
// first bytes in the text, are for who finds a fault there that hangs on more
// than the text.
type Tree struct {
	Kind       Kind
	Parts      []Tree
	Name       string
	NameAt     int
	Operator   string
	OperatorAt int
	Literals   []Literal
}

// Literal: its value, and its place in the text.
type Literal struct {
	Value api.Value
	At    int
}

// join makes one tree of those that stand side by side; one alone stays as
// it is.
func join(kind Kind, parts []Tree) Tree {
	if len(parts) == 1 {
		return parts[0]
	}
	return Tree{Kind: kind, Parts: parts}
}
