// Package rummage: things, conditions, and which are nearest: see DOC.md.
package rummage

import (
	"rummage/api"
	"rummage/syntax"
)

// Plain writes a filter in its plain form (P3, P4).
func Plain(filter string) (string, api.Errno, int) {
	tree, errno, at := syntax.Read(filter)
	if errno != api.OK {
		return "", errno, at
	}
	return tree.Plain(), api.OK, 0
}

// Store keeps things.
type Store struct{}

// New makes a store (P5).
func New(fields []api.Field, space int) (*Store, api.Errno) { return nil, api.OK }

// Put keeps a thing (P6).
func (s *Store) Put(id int, spot []int, values []api.Value) api.Errno { return api.OK }

// Drop forgets a thing (P6).
func (s *Store) Drop(id int) api.Errno { return api.OK }

// Get tells a thing (P6).
func (s *Store) Get(id int) ([]int, []api.Value, api.Errno) { return nil, nil, api.OK }

// Select tells the things that meet a filter (P7).
func (s *Store) Select(filter string) ([]int, api.Errno, int) { return nil, api.OK, 0 }

// Nearest tells which of those are nearest to a spot (P8).
func (s *Store) Nearest(filter string, spot []int, most int) ([]api.Hit, api.Errno, int) {
	return nil, api.OK, 0
}
