package sieve

import (
	"slices"
	"testing"

	"rummage/api"
	"rummage/shelf"
	"rummage/syntax"
)

func fields() []api.Field {
	return []api.Field{{Name: "a", Kind: api.Number}, {Name: "b", Kind: api.Number}, {Name: "s", Kind: api.String}}
}

// nine has a thing for each two of yes, no and unknown that `a = 1` and
// `b = 1` may say, in this order.
func nine() *shelf.Shelf {
	s := shelf.New()
	answers := []api.Value{{Kind: api.Number, N: 1}, {Kind: api.Number, N: 2}, {}}
	for i, a := range answers {
		for j, b := range answers {
			s.Put(3*i+j, shelf.Thing{Values: []api.Value{a, b, {Kind: api.String, S: "x"}}})
		}
	}
	return s
}

func read(t *testing.T, filter string) syntax.Tree {
	t.Helper()
	tree, errno, at := syntax.Read(filter)
	if errno != api.OK {
		t.Fatalf("Read(%q): %d at %d", filter, errno, at)
	}
	return tree
}

func TestJudge(t *testing.T) {
	things := nine()
	s := &sieve{fields: fields(), things: things, all: things.All()}
	for _, c := range []struct {
		filter  string
		yes, no []int
	}{
		{`a = 1`, []int{0, 1, 2}, []int{3, 4, 5}},
		{`b = 1`, []int{0, 3, 6}, []int{1, 4, 7}},
		{`b != 1`, []int{1, 4, 7}, []int{0, 3, 6}},
		{`not a = 1`, []int{3, 4, 5}, []int{0, 1, 2}},
		{`a = 1 and b = 1`, []int{0}, []int{1, 3, 4, 5, 7}},
		{`a = 1 or b = 1`, []int{0, 1, 2, 3, 6}, []int{4}},
		{`a is null`, []int{6, 7, 8}, []int{0, 1, 2, 3, 4, 5}},
		{`not b is null`, []int{0, 1, 3, 4, 6, 7}, []int{2, 5, 8}},
		{`s like "" and a < 2`, []int{0, 1, 2}, []int{3, 4, 5}},
		{`s like "y" or a in (2, 1)`, []int{0, 1, 2, 3, 4, 5}, nil},
	} {
		v := s.judge(read(t, c.filter))
		if !slices.Equal(v.yes.Numbers(), c.yes) || !slices.Equal(v.no.Numbers(), c.no) {
			t.Errorf("%s: yes %v, no %v, want %v, %v", c.filter, v.yes.Numbers(), v.no.Numbers(), c.yes, c.no)
		}
		if Sift(read(t, c.filter), fields(), things) != v.yes {
			t.Errorf("%s: Sift gives other things than those of the yes", c.filter)
		}
	}
}

func TestCheck(t *testing.T) {
	for _, c := range []struct {
		filter string
		errno  api.Errno
		at     int
	}{
		{`a = 1 and b in (1, 2) or not (s like "x" and s is null)`, api.OK, 0},
		{`x = "1"`, api.ErrName, 0},
		{`a like "x"`, api.ErrKind, 2},
		{`a in (1, "2", 3, "4")`, api.ErrKind, 9},
		{`s > 1 or x = 1`, api.ErrKind, 4},
		{`not (x = 1 or s > 1)`, api.ErrName, 5},
	} {
		if errno, at := Check(read(t, c.filter), fields()); errno != c.errno || at != c.at {
			t.Errorf("Check(%s) = %d, %d, want %d, %d", c.filter, errno, at, c.errno, c.at)
		}
	}
}
