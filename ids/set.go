// Package ids keeps sets of things' numbers.
package ids

import "rummage/api"

const perWord = 64

// Set has one bit for each number from 0 to MaxID. The Set of nothing is the
// zero value, so that == tells whether a set is empty.
type Set [api.MaxID/perWord + 1]uint64

// With gives the set and id, which is from 0 to MaxID.
func (s Set) With(id int) Set {
	s[id/perWord] |= bit(id)
	return s
}

// Without gives the set but for id, which is from 0 to MaxID.
func (s Set) Without(id int) Set {
	s[id/perWord] &^= bit(id)
	return s
}

func bit(id int) uint64 { return 1 << (id % perWord) }
