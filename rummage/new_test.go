package rummage

import (
	"math"
	"strings"
	"testing"

	"rummage/api"
)

func numberField(name string) api.Field { return api.Field{Name: name, Kind: api.Number} }

func stringField(name string) api.Field { return api.Field{Name: name, Kind: api.String} }

func fieldsOf(names ...string) []api.Field {
	var fields []api.Field
	for i, name := range names {
		fields = append(fields, api.Field{Name: name, Kind: []int{api.Number, api.String}[i%2]})
	}
	return fields
}

func wantNew(t *testing.T, fields []api.Field, space int, want api.Errno) {
	t.Helper()
	s, errno := New(fields, space)
	if errno != want || (s != nil) != (want == api.OK) {
		t.Errorf("New(%v, %d) = %p, %d, want error %d", fields, space, s, errno, want)
	}
}

func TestP5CountOfFields(t *testing.T) {
	wantNew(t, nil, 1, api.ErrArg)
	wantNew(t, []api.Field{}, 1, api.ErrArg)
	wantNew(t, fieldsOf("a"), 1, api.OK)
	wantNew(t, fieldsOf("a", "b"), 1, api.OK)
	wantNew(t, fieldsOf("a", "b", "c"), 1, api.OK)
	wantNew(t, fieldsOf("a", "b", "c", "d"), 1, api.OK)
	wantNew(t, fieldsOf("a", "b", "c", "d", "e"), 1, api.ErrArg)
	wantNew(t, make([]api.Field, 1000), 1, api.ErrArg)
}

func TestP5Space(t *testing.T) {
	for space := 1; space <= api.MaxSpace; space++ {
		wantNew(t, fieldsOf("a"), space, api.OK)
	}
	for _, space := range []int{0, -1, api.MaxSpace + 1, math.MaxInt, math.MinInt} {
		wantNew(t, fieldsOf("a"), space, api.ErrArg)
	}
}

func TestP5Kinds(t *testing.T) {
	wantNew(t, []api.Field{numberField("a")}, 1, api.OK)
	wantNew(t, []api.Field{stringField("a")}, 1, api.OK)
	for _, kind := range []int{api.Null, -1, 3, math.MaxInt, math.MinInt} {
		wrong := api.Field{Name: "z", Kind: kind}
		wantNew(t, []api.Field{wrong}, 1, api.ErrArg)
		wantNew(t, append(fieldsOf("a", "b", "c"), wrong), 1, api.ErrArg)
	}
}

func TestP5Names(t *testing.T) {
	for _, name := range []string{"a", "z", "abcdefgh", "stuvwxyz", "nota", "an", "ands", "nul", "nulls", "ins", "lik"} {
		wantNew(t, []api.Field{numberField(name)}, 1, api.OK)
		wantNew(t, append(fieldsOf("x", "y"), stringField(name)), 1, api.OK)
	}
	for _, name := range []string{
		"", "abcdefghi", "A", "a1", "1", "-1", "a b", " a", "a ", "a_b", "a\x00", "ä", "`", "{", `"a"`, "=", "(", "\xff",
		"and", "or", "not", "in", "like", "is", "null", strings.Repeat("a", 10000),
	} {
		wantNew(t, []api.Field{numberField(name)}, 1, api.ErrName)
		wantNew(t, append(fieldsOf("x", "y"), stringField(name)), 1, api.ErrName)
	}
}

func TestP5SameNames(t *testing.T) {
	a := numberField("a")
	wantNew(t, []api.Field{a, a}, 1, api.ErrName)
	wantNew(t, []api.Field{a, stringField("a")}, 1, api.ErrName)
	wantNew(t, fieldsOf("a", "b", "c", "a"), 1, api.ErrName)
	wantNew(t, fieldsOf("a", "b", "c", "c"), 1, api.ErrName)
	wantNew(t, fieldsOf("a", "b", "c", "b"), 1, api.ErrName)
	wantNew(t, fieldsOf("a", "aa", "ab", "b"), 1, api.OK)
}

// A wrong name ahead of, or beside, each thing for which the answer is ErrArg.
func TestP5ArgComesAheadOfName(t *testing.T) {
	wantNew(t, fieldsOf("and"), 0, api.ErrArg)
	wantNew(t, fieldsOf("a", "a"), api.MaxSpace+1, api.ErrArg)
	wantNew(t, fieldsOf("", "", "", "", ""), 1, api.ErrArg)
	wantNew(t, []api.Field{{Name: "A", Kind: 3}}, 1, api.ErrArg)
	wantNew(t, []api.Field{numberField("A"), {Name: "b", Kind: api.Null}}, 1, api.ErrArg)
	wantNew(t, []api.Field{numberField("a"), numberField("a"), {Name: "b", Kind: 3}}, 1, api.ErrArg)
}

func TestP5WithoutThings(t *testing.T) {
	s := newStore(t, 1, numberField("a"))
	for id := -1; id <= api.MaxID+1; id++ {
		wantNone(t, s, id)
	}
}
