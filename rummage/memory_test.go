package rummage

import (
	"slices"
	"testing"

	"rummage/api"
)

// pieces gives lists that have spare room, and the whole lists of which they
// are pieces.
func pieces() (fields, wholeFields []api.Field, spot, wholeSpot []int, values, wholeValues []api.Value) {
	wholeFields = []api.Field{numberField("n"), stringField("s"), {Name: "room", Kind: 9}}
	wholeSpot = []int{1, 2, 77, 78}
	wholeValues = []api.Value{num(3), str("x"), num(79), {Kind: 9}}
	return wholeFields[:2], wholeFields, wholeSpot[:2], wholeSpot, wholeValues[:2], wholeValues
}

func TestP2NothingHandedInIsWrittenInto(t *testing.T) {
	fields, wholeFields, spot, wholeSpot, values, wholeValues := pieces()
	_, wantFields, _, wantSpot, _, wantValues := pieces()
	s := newStore(t, 2, fields...)
	for range 3 {
		wantPut(t, s, api.OK, 1, spot, values...)
		wantPut(t, s, api.ErrArg, 1, wholeSpot, values...)
		wantPut(t, s, api.ErrKind, 1, spot, values[1], values[0])
		gotSpot, gotValues, _ := s.Get(1)
		scribble(gotSpot, gotValues)
		wantDrop(t, s, 1)
	}
	wantNew(t, wholeFields, 2, api.ErrArg)
	wantNew(t, append(wholeFields[:0:0], fields[0], fields[0]), 2, api.ErrName)
	if !slices.Equal(wholeFields, wantFields) || !slices.Equal(wholeSpot, wantSpot) || !slices.Equal(wholeValues, wantValues) {
		t.Errorf("now %v, %v, %v", wholeFields, wholeSpot, wholeValues)
	}
}

func TestP2NothingHandedInIsKept(t *testing.T) {
	fields, wholeFields, spot, _, values, _ := pieces()
	s := newStore(t, 2, fields...)
	for i := range wholeFields {
		wholeFields[i] = api.Field{Name: "and", Kind: api.String + i}
	}
	wantPut(t, s, api.OK, 1, spot, values...)
	wantPut(t, s, api.OK, 2, spot, values...)
	scribble(spot, values)
	wantThing(t, s, 1, []int{1, 2}, num(3), str("x"))
	wantThing(t, s, 2, []int{1, 2}, num(3), str("x"))
	wantPut(t, s, api.OK, 2, []int{5, 6}, null, null)
	wantThing(t, s, 1, []int{1, 2}, num(3), str("x"))
	wantDrop(t, s, 2)
	wantDrop(t, s, 1)
}

// A store that looked a dropped thing's values up in the caller's list would
// lay them back as others.
func TestP2ListsChangedAheadOfDropAndPut(t *testing.T) {
	s := newStore(t, 1, numberField("n"))
	spot, values := []int{1}, []api.Value{num(1)}
	for n := range 10 {
		spot[0], values[0] = n, num(n)
		wantPut(t, s, api.OK, n%3, spot, values...)
	}
	wantThing(t, s, 0, []int{9}, num(9))
	wantThing(t, s, 1, []int{7}, num(7))
	wantThing(t, s, 2, []int{8}, num(8))
}

// scribble writes all over two lists, their spare room too.
func scribble(spot []int, values []api.Value) {
	for i := range spot[:cap(spot)] {
		spot[:cap(spot)][i] = -999
	}
	for i := range values[:cap(values)] {
		values[:cap(values)][i] = str("scribble")
	}
}

func TestP2WhatComesOutIsTheCallers(t *testing.T) {
	s := newStore(t, 3, fieldsOf("a", "b", "c")...)
	for id := range 3 {
		wantPut(t, s, api.OK, id, []int{id, 2, 3}, num(id), str("x"), null)
	}
	var spots [][]int
	var values [][]api.Value
	for range 3 {
		for id := range 3 {
			a, b, _ := s.Get(id)
			spots, values = append(spots, a), append(values, b)
		}
	}
	for i := range spots {
		scribble(spots[i], values[i])
		for j := i + 1; j < len(spots); j++ {
			wantLists(t, spots[j], values[j], []int{j % 3, 2, 3}, num(j%3), str("x"), null)
		}
		for id := range 3 {
			wantThing(t, s, id, []int{id, 2, 3}, num(id), str("x"), null)
		}
	}
	// Nor does what a store does later change what has come out.
	for id := range 3 {
		wantPut(t, s, api.OK, id, []int{7, 7, 7}, num(7), null, num(7))
		wantDrop(t, s, id)
	}
	for i := range spots {
		wantLists(t, spots[i], values[i], []int{-999, -999, -999}, str("scribble"), str("scribble"), str("scribble"))
	}
}

func wantLists(t *testing.T, spot []int, values []api.Value, wantSpot []int, wantValues ...api.Value) {
	t.Helper()
	if !slices.Equal(spot, wantSpot) || !slices.Equal(values, wantValues) {
		t.Errorf("lists are %v, %v, want %v, %v", spot, values, wantSpot, wantValues)
	}
}

func TestP2StoresBesideOneAnother(t *testing.T) {
	fields := []api.Field{numberField("n"), stringField("s")}
	one, two := newStore(t, 2, fields...), newStore(t, 2, fields...)
	fields[0], fields[1] = fields[1], fields[0]
	other := newStore(t, 1, fields...)
	wantPut(t, one, api.OK, 1, []int{1, 1}, num(1), str("one"))
	wantNone(t, two, 1)
	wantNone(t, other, 1)
	wantPut(t, two, api.OK, 1, []int{2, 2}, num(2), str("two"))
	wantPut(t, other, api.OK, 1, []int{3}, str("other"), num(3))
	wantPut(t, two, api.OK, 2, []int{2, 2}, num(1), str("one"))
	wantPut(t, one, api.ErrKind, 1, []int{1, 1}, str("other"), num(3))
	wantThing(t, one, 1, []int{1, 1}, num(1), str("one"))
	wantThing(t, two, 1, []int{2, 2}, num(2), str("two"))
	wantThing(t, other, 1, []int{3}, str("other"), num(3))
	wantDrop(t, two, 1)
	wantNone(t, one, 2)
	wantThing(t, one, 1, []int{1, 1}, num(1), str("one"))
	wantThing(t, two, 2, []int{2, 2}, num(1), str("one"))
	wantThing(t, other, 1, []int{3}, str("other"), num(3))
}

func TestP2FindingWritesIntoNothingHandedIn(t *testing.T) {
	s := examples(t)
	whole := []int{3, 3, 77, 78}
	for range 3 {
		for most := range 5 {
			s.Nearest(everything, whole[:2], most)
			s.Nearest(`x = 1`, whole[:2], most)
			s.Nearest(everything, whole[:1], most)
			s.Nearest(everything, whole, most)
		}
	}
	if !slices.Equal(whole, []int{3, 3, 77, 78}) {
		t.Errorf("now %v", whole)
	}
}

func TestP2FindingKeepsNothingHandedIn(t *testing.T) {
	fields, wholeFields, spot, _, values, _ := pieces()
	s := newStore(t, 2, fields...)
	wantPut(t, s, api.OK, 1, spot, values...)
	for i := range wholeFields {
		wholeFields[i] = api.Field{Name: "x", Kind: api.Number}
	}
	scribble(spot, values)
	wantSelect(t, s, `n = 3 and s = "x"`, 1)
	wantSelect(t, s, `n > 2 and s like "x"`, 1)
	wantNoFind(t, s, `x = 1`, api.ErrName, 0)
	wantNoFind(t, s, `s = 1`, api.ErrKind, 4)
	asked := []int{0, 0}
	hits, _, _ := s.Nearest(everything, asked, 9)
	asked[0], asked[1] = 9, 9
	if !slices.Equal(hits, []api.Hit{hit(1, 5)}) {
		t.Errorf("the hits have become %v", hits)
	}
	wantNearest(t, s, everything, []int{0, 0}, 9, hit(1, 5))
}

// scribbleFound writes all over what came out, its spare room too.
func scribbleFound(list []int, hits []api.Hit) {
	for i := range list[:cap(list)] {
		list[:cap(list)][i] = -999
	}
	for i := range hits[:cap(hits)] {
		hits[:cap(hits)][i] = hit(-999, -999)
	}
}

func TestP2WhatIsFoundIsTheCallers(t *testing.T) {
	s := examples(t)
	ask := func(most int) ([]int, []api.Hit) {
		list, _, _ := s.Select(everything)
		hits, _, _ := s.Nearest(everything, []int{0, 0}, most)
		return list, hits
	}
	all := []api.Hit{hit(1, 0), hit(3, 0), hit(2, 25)}
	for most := range 5 {
		want := all[:min(most, 3)]
		var lists [][]int
		var hits [][]api.Hit
		for range 4 {
			a, b := ask(most)
			lists, hits = append(lists, a), append(hits, b)
		}
		for i := range lists {
			scribbleFound(lists[i], hits[i])
			for j := i + 1; j < len(lists); j++ {
				if !slices.Equal(lists[j], []int{1, 2, 3}) || !slices.Equal(hits[j], want) {
					t.Errorf("with %d, lists have become %v, %v", most, lists[j], hits[j])
				}
			}
			wantSelect(t, s, everything, 1, 2, 3)
			wantNearest(t, s, everything, []int{0, 0}, most, want...)
		}
	}
	wantThing(t, s, 2, []int{3, 4}, null, str("b"))
}

func TestP2WhatIsFoundStays(t *testing.T) {
	s := examples(t)
	list, _, _ := s.Select(everything)
	hits, _, _ := s.Nearest(everything, []int{0, 0}, 2)
	wantPut(t, s, api.OK, 0, []int{0, 0}, null, null)
	wantPut(t, s, api.OK, 1, []int{9, 9}, null, null)
	wantDrop(t, s, 3)
	if !slices.Equal(list, []int{1, 2, 3}) || !slices.Equal(hits, []api.Hit{hit(1, 0), hit(3, 0)}) {
		t.Errorf("lists have become %v, %v", list, hits)
	}
}

func TestP2FindingInStoresBesideOneAnother(t *testing.T) {
	one, two := newStore(t, 1, numberField("n")), newStore(t, 1, numberField("n"))
	other := newStore(t, 2, stringField("n"), numberField("m"))
	wantPut(t, one, api.OK, 1, []int{1}, num(1))
	wantPut(t, two, api.OK, 2, []int{2}, num(1))
	wantPut(t, other, api.OK, 3, []int{3, 3}, str("1"), num(1))
	wantSelect(t, one, `n = 1`, 1)
	wantSelect(t, two, `n = 1`, 2)
	wantSelect(t, other, `n = "1"`, 3)
	wantNoFind(t, one, `m = 1`, api.ErrName, 0)
	wantNoFind(t, one, `n = "1"`, api.ErrKind, 4)
	wantNoFind(t, other, `n = 1`, api.ErrKind, 4)
	wantNearest(t, one, everything, []int{0}, 9, hit(1, 1))
	wantNearest(t, two, everything, []int{0}, 9, hit(2, 4))
	wantNearest(t, other, everything, []int{0, 0}, 9, hit(3, 18))
	wantArg(t, one, everything, []int{0, 0}, 9)
	wantArg(t, other, everything, []int{0}, 9)
	wantDrop(t, two, 2)
	wantSelect(t, two, everything)
	wantSelect(t, one, everything, 1)
	wantSelect(t, other, everything, 3)
}
