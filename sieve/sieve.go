// Package sieve finds the things that meet a filter.
package sieve

import (
	"cmp"
	"strings"

	"rummage/api"
	"rummage/ids"
	"rummage/shelf"
	"rummage/syntax"
)

// verdict: of which things a filter says yes, and of which no. Of all others
// it is unknown.
type verdict struct {
	yes, no ids.Set
}

// laying: how two sets are laid together.
type laying func(ids.Set, ids.Set) ids.Set

type sieve struct {
	fields []api.Field
	things *shelf.Shelf
	all    ids.Set
}

// Sift gives the numbers of the things of which a filter says yes (P7). Check
// must have found nothing to say against it.
func Sift(filter syntax.Tree, fields []api.Field, things *shelf.Shelf) ids.Set {
	s := &sieve{fields: fields, things: things, all: things.All()}
	return s.judge(filter).yes
}

func (s *sieve) judge(filter syntax.Tree) verdict {
	switch filter.Kind {
	case syntax.Test:
		return s.test(filter)
	case syntax.Not:
		part := s.judge(filter.Parts[0])
		return verdict{yes: part.no, no: part.yes}
	}
	return s.chain(filter)
}

func (s *sieve) chain(filter syntax.Tree) verdict {
	layYes, layNo := layings(filter.Kind)
	whole := s.judge(filter.Parts[0])
	for _, part := range filter.Parts[1:] {
		next := s.judge(part)
		whole = verdict{yes: layYes(whole.yes, next.yes), no: layNo(whole.no, next.no)}
	}
	return whole
}

// layings picks how the yes and the no of the parts of an And or an Or are
// laid together: one no is enough for an And, one yes for an Or.
func layings(kind syntax.Kind) (yes, no laying) {
	if kind == syntax.And {
		return ids.Set.And, ids.Set.Or
	}
	return ids.Set.Or, ids.Set.And
}

func (s *sieve) test(test syntax.Tree) verdict {
	field := place(test.Name, s.fields)
	null := s.things.Having(field, api.Value{Kind: api.Null})
	known := s.all.Minus(null)
	if test.Operator == "is" {
		return verdict{yes: null, no: known}
	}
	yes := s.meeting(field, test)
	return verdict{yes: yes, no: known.Minus(yes)}
}

// meeting gives the numbers of the things whose value is not Null and meets
// a test other than that of Null.
func (s *sieve) meeting(field int, test syntax.Tree) ids.Set {
	literal := test.Literals[0].Value
	switch test.Operator {
	case "=", "in":
		return s.havingOne(field, test.Literals)
	case "like":
		return s.things.Where(field, func(value api.Value) bool {
			return strings.HasPrefix(value.S, literal.S)
		})
	}
	return s.things.Where(field, func(value api.Value) bool {
		return stands(compare(value, literal), test.Operator)
	})
}

func (s *sieve) havingOne(field int, literals []syntax.Literal) ids.Set {
	var found ids.Set
	for _, literal := range literals {
		found = found.Or(s.things.Having(field, literal.Value))
	}
	return found
}

// compare tells, below, at or above 0, how two values of one kind stand to
// each other.
func compare(a, b api.Value) int {
	if a.Kind == api.Number {
		return cmp.Compare(a.N, b.N)
	}
	return cmp.Compare(a.S, b.S)
}

// stands tells whether an order that compare gave is the one that a sign asks
// for.
func stands(order int, sign string) bool {
	switch sign {
	case "!=":
		return order != 0
	case "<":
		return order < 0
	case "<=":
		return order <= 0
	case ">":
		return order > 0
	}
	return order >= 0
}
