// Package ids keeps sets of things' numbers.
package ids

import (
	"math/bits"

	"rummage/api"
)

const perWord = 64

// Set has one bit for each number from 0 to MaxID. The Set of nothing is the
// zero value, so that == tells whether a set is empty.
type Set [api.MaxID/perWord + 1]uint64

// With gives the set and id, which is from 0 to MaxID.
func (s Set) With(id int) Set {
	s[id/perWord] |= bit(id)
	return s
}

// Without gives the set but for id, which is from 0 to MaxID.
func (s Set) Without(id int) Set {
	s[id/perWord] &^= bit(id)
	return s
}

// And gives what is in both sets.
func (s Set) And(other Set) Set {
	for i, word := range other {
		s[i] &= word
	}
	return s
}

// Or gives what is in one of the sets, or in both.
func (s Set) Or(other Set) Set {
	for i, word := range other {
		s[i] |= word
	}
	return s
}

// Minus gives what is in the set, but not in the other.
func (s Set) Minus(other Set) Set {
	for i, word := range other {
		s[i] &^= word
	}
	return s
}

// Numbers lists what is in the set, the lowest first.
func (s Set) Numbers() []int {
	var list []int
	for i, word := range s {
		for ; word != 0; word &= word - 1 {
			list = append(list, i*perWord+bits.TrailingZeros64(word))
		}
	}
	return list
}

func bit(id int) uint64 { return 1 << (id % perWord) }
