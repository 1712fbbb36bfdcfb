package rummage

import (
	"slices"
	"testing"

	"rummage/api"
)

// found gives what Select tells, of a filter that must have no error.
func found(t *testing.T, s *Store, filter string) []int {
	t.Helper()
	list, errno, at := s.Select(filter)
	if errno != api.OK || at != 0 {
		t.Fatalf("Select(%q) = %v, %d, %d", filter, list, errno, at)
	}
	return list
}

// crowd is a store of things with many values and with Null, two of them at
// each spot.
func crowd(t *testing.T) *Store {
	t.Helper()
	s := newStore(t, 2, fourFields()...)
	d := dice(9)
	for id := range 60 {
		wantPut(t, s, api.OK, id*69, []int{id / 2 % 5, id / 10}, d.values()...)
	}
	return s
}

func someFilters() []string {
	return []string{
		`n = 1`, `n != 1`, `n < 1`, `n <= 1`, `n > 1`, `n >= 1`, `n in (1, 2)`, `n is null`, `s like "a"`, `s < "b"`,
		`n = 1 and s = "a"`, `n = 1 or s = "a"`, `not n = 1`, `not(n = 1 and s = "a")`, `not(n = 1 or s is null)`,
		`(n=1 or m=1)and(s=""or w="")`, `((n = 1 and m = 1) or s = "b") or w = "b"`, `n=-007 or(m>-0and(w like"a"))`,
	}
}

func TestP9AFilterOrItsNotOrNeither(t *testing.T) {
	s := crowd(t)
	yes, no, neither := 0, 0, 0
	for _, filter := range someFilters() {
		one, other := found(t, s, filter), found(t, s, `not (`+filter+`)`)
		for id := range api.MaxID + 1 {
			_, _, errno := s.Get(id)
			in, out := slices.Contains(one, id), slices.Contains(other, id)
			switch {
			case in && out, (in || out) && errno != api.OK:
				t.Errorf("%s and its not say %v and %v of %d", filter, in, out, id)
			case in:
				yes++
			case out:
				no++
			case errno == api.OK:
				neither++
			}
		}
	}
	if yes < 100 || no < 100 || neither < 100 {
		t.Errorf("%d times yes, %d times no, %d times neither", yes, no, neither)
	}
}

func TestP9AFilterAndItsPlainForm(t *testing.T) {
	s := crowd(t)
	for _, filter := range someFilters() {
		plain, _, _ := Plain(filter)
		wantSelect(t, s, plain, found(t, s, filter)...)
		hits, _, _ := s.Nearest(filter, []int{1, 2}, 99)
		wantNearest(t, s, plain, []int{1, 2}, 99, hits...)
	}
	d := dice(3)
	changed, told := 0, 0
	for range 5000 {
		filter := lay(d.condition(d.below(6)).tokens, d.maybe).text
		plain, errno, _ := Plain(filter)
		if errno != api.OK {
			continue
		}
		if len(plain) > api.MaxFilter {
			wantNoFind(t, s, plain, api.ErrLong, 0)
			continue
		}
		want := found(t, s, filter)
		wantSelect(t, s, plain, want...)
		told += len(want)
		if plain != filter {
			changed++
		}
	}
	if changed < 1000 || told < 10000 {
		t.Errorf("only %d filters had another plain form, %d things were told", changed, told)
	}
}

// The errors that hang on the fields are the plain form's too, if not at the
// same place.
func TestP9ThePlainFormHasTheSameErrors(t *testing.T) {
	s := crowd(t)
	wantNoFind(t, s, `(x=1)`, api.ErrName, 1)
	wantNoFind(t, s, `x = 1`, api.ErrName, 0)
	wantNoFind(t, s, `n in(1 ,"x")`, api.ErrKind, 8)
	wantNoFind(t, s, `n in (1, "x")`, api.ErrKind, 9)
}

func TestP9WithMostTheBeginningOfWithMore(t *testing.T) {
	s := crowd(t)
	for _, filter := range append(someFilters(), `n is null or not n is null`) {
		for _, spot := range [][]int{{0, 0}, {2, 3}, {-1000, 1000}} {
			all, _, _ := s.Nearest(filter, spot, 9999)
			if list := found(t, s, filter); len(all) != len(list) {
				t.Errorf("%s: Nearest tells %d things, Select %d", filter, len(all), len(list))
			}
			for most := range len(all) + 3 {
				wantNearest(t, s, filter, spot, most, all[:min(most, len(all))]...)
			}
		}
	}
}
