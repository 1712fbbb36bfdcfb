// Package syntax reads filters, and writes them in their plain form.
package syntax

import "rummage/api"

// Kind: what a tree says of its parts, or that it is a test.
type Kind int

// From the loosest on: where a looser one is a part of a closer one, the
// plain form needs brackets.
const (
	Or Kind = iota
	And
	Not
	Test
)

// Tree is a filter without its brackets. An Or and an And have two parts or
// more, a Not has one. A Test has no parts but a name, an operator (a sign,
// "in", "like" or "is") and literals: as many as there are behind an "in",
// none behind an "is", else one.
type Tree struct {
	Kind     Kind
	Parts    []Tree
	Name     string
	Operator string
	Literals []api.Value
}

// join makes one tree of those that stand side by side; one alone stays as
// it is.
func join(kind Kind, parts []Tree) Tree {
	if len(parts) == 1 {
		return parts[0]
	}
	return Tree{Kind: kind, Parts: parts}
}
