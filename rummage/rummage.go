// Package rummage: things, conditions, and which are nearest: see DOC.md.
package rummage

import (
	"cmp"
	"slices"
	"strings"

	"rummage/api"
	"rummage/ids"
	"rummage/shelf"
	"rummage/sieve"
	"rummage/syntax"
)

// Plain writes a filter in its plain form (P3, P4).
func Plain(filter string) (string, api.Errno, int) {
	tree, errno, at := syntax.Read(filter)
	if errno != api.OK {
		return "", errno, at
	}
	return tree.Plain(), api.OK, 0
}

// Store keeps things.
type Store struct {
	fields []api.Field
	space  int
	shelf  *shelf.Shelf
}

// New makes a store (P5).
func New(fields []api.Field, space int) (*Store, api.Errno) {
	if errno := checkNew(fields, space); errno != api.OK {
		return nil, errno
	}
	return &Store{fields: ownFields(fields), space: space, shelf: shelf.New()}, api.OK
}

// ownFields clones the names too, for what is handed in is not kept.
func ownFields(fields []api.Field) []api.Field {
	var own []api.Field
	for _, field := range fields {
		own = append(own, api.Field{Name: strings.Clone(field.Name), Kind: field.Kind})
	}
	return own
}

// Put keeps a thing (P6).
func (s *Store) Put(id int, spot []int, values []api.Value) api.Errno {
	if errno := s.checkPut(id, spot, values); errno != api.OK {
		return errno
	}
	s.shelf.Put(id, shelf.Thing{Spot: spot, Values: values})
	return api.OK
}

// Drop forgets a thing (P6).
func (s *Store) Drop(id int) api.Errno {
	if !s.shelf.Drop(id) {
		return api.ErrNone
	}
	return api.OK
}

// Get tells a thing (P6).
func (s *Store) Get(id int) ([]int, []api.Value, api.Errno) {
	thing, ok := s.shelf.Get(id)
	if !ok {
		return nil, nil, api.ErrNone
	}
	return thing.Spot, thing.Values, api.OK
}

// Select tells the things that meet a filter (P7).
func (s *Store) Select(filter string) ([]int, api.Errno, int) {
	found, errno, at := s.find(filter)
	if errno != api.OK {
		return nil, errno, at
	}
	return found.Numbers(), api.OK, 0
}

// Nearest tells which of those are nearest to a spot (P8).
func (s *Store) Nearest(filter string, spot []int, most int) ([]api.Hit, api.Errno, int) {
	if !isSpot(spot, s.space) || most < 0 {
		return nil, api.ErrArg, 0
	}
	found, errno, at := s.find(filter)
	if errno != api.OK {
		return nil, errno, at
	}
	hits := s.hits(found, spot)
	return hits[:min(most, len(hits))], api.OK, 0
}

// find gives the numbers of the things that meet a filter, or the error and
// its place.
func (s *Store) find(filter string) (ids.Set, api.Errno, int) {
	tree, errno, at := syntax.Read(filter)
	if errno != api.OK {
		return ids.Set{}, errno, at
	}
	if errno, at := sieve.Check(tree, s.fields); errno != api.OK {
		return ids.Set{}, errno, at
	}
	return sieve.Sift(tree, s.fields, s.shelf), api.OK, 0
}

// hits tells how far the things lie from a spot, the nearest first.
func (s *Store) hits(found ids.Set, spot []int) []api.Hit {
	var hits []api.Hit
	for _, id := range found.Numbers() {
		hits = append(hits, api.Hit{ID: id, Far: s.shelf.Far(id, spot)})
	}
	slices.SortFunc(hits, nearer)
	return hits
}

func nearer(a, b api.Hit) int {
	return cmp.Or(cmp.Compare(a.Far, b.Far), cmp.Compare(a.ID, b.ID))
}
