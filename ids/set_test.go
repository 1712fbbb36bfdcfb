package ids

import (
	"testing"

	"rummage/api"
)

func TestEachNumberHasItsOwnBit(t *testing.T) {
	seen := map[Set]int{{}: -1}
	for id := range api.MaxID + 1 {
		one := Set{}.With(id)
		if other, ok := seen[one]; ok {
			t.Fatalf("%d and %d have the same set", other, id)
		}
		seen[one] = id
		if one.With(id) != one || one.Without(id) != (Set{}) || (Set{}).Without(id) != (Set{}) {
			t.Fatalf("%d is not there once, or not gone", id)
		}
	}
}

func TestTheOtherNumbersStay(t *testing.T) {
	for _, id := range []int{0, 1, 62, 63, 64, 65, 4031, 4032, 4094, 4095} {
		for _, other := range []int{0, 63, 64, 127, 4032, 4095} {
			if id == other {
				continue
			}
			both := Set{}.With(id).With(other)
			if both != (Set{}).With(other).With(id) || both.Without(id) != (Set{}).With(other) {
				t.Errorf("%d and %d are in each other's way", id, other)
			}
		}
	}
}

func TestASetIsAValue(t *testing.T) {
	one := Set{}.With(1)
	two := one.With(2)
	none := one.Without(1)
	if one != (Set{}).With(1) || two == one || none != (Set{}) {
		t.Errorf("a set has changed by what was made of it")
	}
}
