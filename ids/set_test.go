package ids

import (
	"slices"
	"testing"

	"rummage/api"
)

func TestEachNumberHasItsOwnBit(t *testing.T) {
	seen := map[Set]int{{}: -1}
	for id := range api.MaxID + 1 {
		one := Set{}.With(id)
		if other, ok := seen[one]; ok {
			t.Fatalf("%d and %d have the same set", other, id)
		}
		seen[one] = id
		if one.With(id) != one || one.Without(id) != (Set{}) || (Set{}).Without(id) != (Set{}) {
			t.Fatalf("%d is not there once, or not gone", id)
		}
	}
}

func TestTheOtherNumbersStay(t *testing.T) {
	for _, id := range []int{0, 1, 62, 63, 64, 65, 4031, 4032, 4094, 4095} {
		for _, other := range []int{0, 63, 64, 127, 4032, 4095} {
			if id == other {
				continue
			}
			both := Set{}.With(id).With(other)
			if both != (Set{}).With(other).With(id) || both.Without(id) != (Set{}).With(other) {
				t.Errorf("%d and %d are in each other's way", id, other)
			}
		}
	}
}

func TestASetIsAValue(t *testing.T) {
	one := Set{}.With(1)
	two := one.With(2)
	none := one.Without(1)
	if one != (Set{}).With(1) || two == one || none != (Set{}) {
		t.Errorf("a set has changed by what was made of it")
	}
}

func of(numbers ...int) Set {
	var s Set
	for _, id := range numbers {
		s = s.With(id)
	}
	return s
}

func TestLaidTogether(t *testing.T) {
	for _, at := range []int{0, 1, 60, 61, 62, 63, 64, 2000, 4091, 4092} {
		one, two := of(at, at+1), of(at+1, at+2)
		for _, c := range []struct {
			name string
			lay  func(Set, Set) Set
			want Set
		}{
			{"And", Set.And, of(at + 1)},
			{"Or", Set.Or, of(at, at+1, at+2)},
			{"Minus", Set.Minus, of(at)},
		} {
			if c.lay(one, two) != c.want {
				t.Errorf("%s of sets about %d is another", c.name, at)
			}
		}
		if one != of(at, at+1) || two != of(at+1, at+2) {
			t.Errorf("a set about %d has changed by what was made of it", at)
		}
	}
}

func TestLaidTogetherWithNothing(t *testing.T) {
	var none, all Set
	for id := range api.MaxID + 1 {
		all = all.With(id)
	}
	for _, s := range []Set{none, of(0), of(63, 64, 4095), all} {
		if s.And(none) != none || s.And(all) != s || s.And(s) != s ||
			s.Or(none) != s || s.Or(all) != all || s.Or(s) != s ||
			s.Minus(none) != s || s.Minus(all) != none || s.Minus(s) != none || none.Minus(s) != none {
			t.Errorf("the set of %v is laid with nothing, all or itself to another", s.Numbers())
		}
	}
}

func TestNumbersInOrder(t *testing.T) {
	for _, want := range [][]int{nil, {0}, {4095}, {0, 4095}, {0, 1, 62, 63, 64, 65, 127, 128, 4032, 4094, 4095}} {
		var s Set
		for i := range want {
			s = s.With(want[len(want)-1-i])
		}
		if got := s.Numbers(); !slices.Equal(got, want) {
			t.Errorf("Numbers() = %v, want %v", got, want)
		}
	}
	var s Set
	for id := range api.MaxID + 1 {
		s = s.With(id)
	}
	for i, id := range s.Numbers() {
		if i != id {
			t.Fatalf("%d stands at the place of %d", id, i)
		}
	}
	if n := len(s.Numbers()); n != api.MaxID+1 {
		t.Errorf("%d numbers", n)
	}
}
