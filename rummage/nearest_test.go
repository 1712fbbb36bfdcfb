package rummage

import (
	"math"
	"slices"
	"testing"

	"rummage/api"
)

// everything is said yes to of all things that have the field n.
const everything = `n is null or not n is null`

func wantNearest(t *testing.T, s *Store, filter string, spot []int, most int, want ...api.Hit) {
	t.Helper()
	if got, errno, at := s.Nearest(filter, spot, most); !slices.Equal(got, want) || errno != api.OK || at != 0 {
		t.Errorf("Nearest(%q, %v, %d) = %v, %d, %d, want %v", filter, spot, most, got, errno, at, want)
	}
}

func hit(id, far int) api.Hit { return api.Hit{ID: id, Far: far} }

func TestP8DocumentExamples(t *testing.T) {
	s := examples(t)
	wantNearest(t, s, everything, []int{0, 1}, 2, hit(1, 1), hit(3, 1))
	wantNearest(t, s, everything, []int{0, 1}, 9, hit(1, 1), hit(3, 1), hit(2, 18))
}

func TestP8OnlyWhatMeetsTheFilter(t *testing.T) {
	s := examples(t)
	wantNearest(t, s, `n > 0`, []int{3, 4}, 9, hit(1, 25))
	wantNearest(t, s, `not n > 0`, []int{3, 4}, 9, hit(3, 25))
	wantNearest(t, s, `n > 0 or s like "b"`, []int{3, 4}, 9, hit(2, 0), hit(1, 25))
	wantNearest(t, s, `n = 7`, []int{3, 4}, 9)
	wantNearest(t, newStore(t, 1, numberField("n")), everything, []int{0}, 9)
}

func TestP8Most(t *testing.T) {
	s := newStore(t, 1, numberField("n"))
	var all []api.Hit
	for i := range 20 {
		// The numbers run against how far they are.
		wantPut(t, s, api.OK, 20-i, []int{-i}, num(i))
		all = append(all, hit(20-i, i*i))
	}
	for most := range 20 {
		wantNearest(t, s, everything, []int{0}, most, all[:most]...)
	}
	for _, most := range []int{20, 21, 4096, 1 << 31, 1 << 32, math.MaxInt - 1, math.MaxInt} {
		wantNearest(t, s, everything, []int{0}, most, all...)
	}
	wantNearest(t, s, `n >= 5`, []int{0}, 2, all[5:7]...)
}

func TestP8TheLowerNumberFirst(t *testing.T) {
	s := newStore(t, 2, numberField("n"))
	for _, id := range []int{4095, 64, 0, 63, 128, 2} {
		wantPut(t, s, api.OK, id, []int{3, 4}, null)
	}
	wantPut(t, s, api.OK, 1, []int{5, 0}, null)
	wantPut(t, s, api.OK, 3000, []int{0, -5}, null)
	wantPut(t, s, api.OK, 4094, []int{0, 4}, null)
	wantPut(t, s, api.OK, 5, []int{4, 4}, null)
	wantNearest(t, s, everything, []int{0, 0}, 99, hit(4094, 16),
		hit(0, 25), hit(1, 25), hit(2, 25), hit(63, 25), hit(64, 25), hit(128, 25), hit(3000, 25), hit(4095, 25), hit(5, 32))
	wantNearest(t, s, everything, []int{0, 0}, 3, hit(4094, 16), hit(0, 25), hit(1, 25))
	wantNearest(t, s, everything, []int{3, 4}, 1, hit(0, 0))
}

func TestP8FarInEverySpace(t *testing.T) {
	for space := 1; space <= api.MaxSpace; space++ {
		s := newStore(t, space, numberField("n"))
		low, high, middle := make([]int, space), make([]int, space), make([]int, space)
		for i := range space {
			low[i], high[i] = -api.MaxCoord, api.MaxCoord
		}
		wantPut(t, s, api.OK, 0, high, null)
		wantPut(t, s, api.OK, api.MaxID, low, null)
		side := api.MaxCoord * api.MaxCoord * space
		wantNearest(t, s, everything, middle, 9, hit(0, side), hit(api.MaxID, side))
		wantNearest(t, s, everything, low, 9, hit(api.MaxID, 0), hit(0, 4*side))
		wantNearest(t, s, everything, high, 9, hit(0, 0), hit(api.MaxID, 4*side))
		for i := range space {
			middle[i] = 1
			want := side + 1 - 2*api.MaxCoord
			wantNearest(t, s, everything, middle, 1, hit(0, want))
			middle[i] = -1
			wantNearest(t, s, everything, middle, 1, hit(api.MaxID, want))
			middle[i] = 0
		}
	}
}

func TestP8ThingsPutAnewAndDropped(t *testing.T) {
	s := examples(t)
	wantPut(t, s, api.OK, 3, []int{3, 3}, num(-5), null)
	wantNearest(t, s, everything, []int{3, 4}, 9, hit(2, 0), hit(3, 1), hit(1, 25))
	wantPut(t, s, api.ErrArg, 3, []int{3, 1001}, num(-5), null)
	wantDrop(t, s, 2)
	wantNearest(t, s, everything, []int{3, 4}, 9, hit(3, 1), hit(1, 25))
	wantPut(t, s, api.OK, 2, []int{-3, -4}, num(1), null)
	wantNearest(t, s, everything, []int{3, 4}, 9, hit(3, 1), hit(1, 25), hit(2, 100))
	wantNearest(t, s, `n > 0`, []int{-3, -4}, 1, hit(2, 0))
}

func wantArg(t *testing.T, s *Store, filter string, spot []int, most int) {
	t.Helper()
	if got, errno, at := s.Nearest(filter, spot, most); got != nil || errno != api.ErrArg || at != 0 {
		t.Errorf("Nearest(%.80q, %v, %d) = %v, %d, %d, want ErrArg and 0", filter, spot, most, got, errno, at)
	}
}

func TestP8ArgComesAheadOfTheFilter(t *testing.T) {
	s := examples(t)
	for _, filter := range []string{everything, `n = 1`, ``, `n = `, `n = 1 or x = 1`, `n = "5"`, `n like "5"`, times(7, "("), times(201, " ")} {
		for _, spot := range [][]int{
			nil, {}, {0}, {0, 0, 0}, {0, 0, 0, 0}, {1001, 0}, {0, 1001}, {-1001, 0}, {0, -1001},
			{math.MaxInt, 0}, {0, math.MinInt}, make([]int, 1000),
		} {
			wantArg(t, s, filter, spot, 1)
			wantArg(t, s, filter, spot, 0)
			wantArg(t, s, filter, spot, -1)
		}
		for _, most := range []int{-1, -2, -1 << 32, math.MinInt} {
			wantArg(t, s, filter, []int{0, 0}, most)
			wantArg(t, s, filter, []int{1000, -1000}, most)
		}
	}
	for space := 1; space <= api.MaxSpace; space++ {
		s := newStore(t, space, numberField("n"))
		for count := range api.MaxSpace + 2 {
			if count != space {
				wantArg(t, s, everything, make([]int, count), 1)
			}
		}
		wantNearest(t, s, everything, make([]int, space), 1)
	}
}

// A most of 0 and a store without things do not hide an error of the filter.
func TestP8AsSelect(t *testing.T) {
	empty := newStore(t, 2, numberField("n"), stringField("s"))
	for _, s := range []*Store{examples(t), empty} {
		wantNoFind(t, s, `x = 1`, api.ErrName, 0)
		wantNoFind(t, s, `n = 1 or s = 1 or x = 1`, api.ErrKind, 13)
		wantNoFind(t, s, `n like "x"`, api.ErrKind, 2)
		wantNoFind(t, s, `n = 1 b`, api.ErrText, 6)
	}
}
