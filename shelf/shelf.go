// Package shelf keeps things, and which of them have a value.
package shelf

import (
	"slices"
	"strings"

	"rummage/api"
	"rummage/ids"
)

// Thing: where it lies, and its values in the order of the fields.
type Thing struct {
	Spot   []int
	Values []api.Value
}

// held: a value, and the place of the field that has it.
type held struct {
	field int
	value api.Value
}

// Shelf has things by their numbers, and for each value that a field of one
// of them has, Null too, the numbers of those. A value that none has any more
// is not kept.
type Shelf struct {
	things  map[int]Thing
	holders map[held]ids.Set
}

// New makes a shelf without things.
func New() *Shelf {
	return &Shelf{things: map[int]Thing{}, holders: map[held]ids.Set{}}
}

// Put lays a thing down in place of what had its number, which is from 0 to
// MaxID. The thing stays the caller's.
func (s *Shelf) Put(id int, thing Thing) {
	s.Drop(id)
	own := thing.copied()
	s.things[id] = own
	for field, value := range own.Values {
		key := held{field, value}
		s.holders[key] = s.holders[key].With(id)
	}
}

// Drop takes a thing away, and tells whether there was one.
func (s *Shelf) Drop(id int) bool {
	thing, ok := s.things[id]
	if !ok {
		return false
	}
	delete(s.things, id)
	for field, value := range thing.Values {
		s.release(held{field, value}, id)
	}
	return true
}

func (s *Shelf) release(key held, id int) {
	rest := s.holders[key].Without(id)
	if rest == (ids.Set{}) {
		delete(s.holders, key)
		return
	}
	s.holders[key] = rest
}

// Get gives a thing that is the caller's, and whether there is one.
func (s *Shelf) Get(id int) (Thing, bool) {
	thing, ok := s.things[id]
	if !ok {
		return Thing{}, false
	}
	return thing.copied(), true
}

// All gives the numbers of all things.
func (s *Shelf) All() ids.Set {
	var all ids.Set
	for id := range s.things {
		all = all.With(id)
	}
	return all
}

// Having gives the numbers of the things that have just this value in a
// field. A value is always written the same way, so that == finds it.
func (s *Shelf) Having(field int, value api.Value) ids.Set {
	return s.holders[held{field, value}]
}

// Where gives the numbers of the things whose value in a field is not Null
// and meets the condition.
func (s *Shelf) Where(field int, meets func(api.Value) bool) ids.Set {
	var found ids.Set
	for key, holders := range s.holders {
		if key.field == field && key.value.Kind != api.Null && meets(key.value) {
			found = found.Or(holders)
		}
	}
	return found
}

// Far tells how far a thing that is there lies from a spot of its space.
func (s *Shelf) Far(id int, spot []int) int {
	far := 0
	for i, n := range s.things[id].Spot {
		far += (n - spot[i]) * (n - spot[i])
	}
	return far
}

// copied clones the strings too: one may be a piece of a far longer text,
// which would be kept along with it.
func (t Thing) copied() Thing {
	own := Thing{Spot: slices.Clone(t.Spot), Values: slices.Clone(t.Values)}
	for i := range own.Values {
		own.Values[i].S = strings.Clone(own.Values[i].S)
	}
	return own
}
