package syntax

import (
	"reflect"
	"testing"

	"rummage/api"
)

func num(n int) api.Value { return api.Value{Kind: api.Number, N: n} }

func str(s string) api.Value { return api.Value{Kind: api.String, S: s} }

func test(name, operator string, literals ...api.Value) Tree {
	t := Tree{Kind: Test, Name: name, Operator: operator}
	for _, value := range literals {
		t.Literals = append(t.Literals, Literal{Value: value})
	}
	return t
}

func tree(kind Kind, parts ...Tree) Tree { return Tree{Kind: kind, Parts: parts} }

func TestReadTree(t *testing.T) {
	a, b, c := test("a", "=", num(-7)), test("b", "is"), test("c", "like", str("x"))
	for _, k := range []struct {
		filter string
		want   Tree
	}{
		{`a = -07`, a},
		{`a in (1, "", -0)`, test("a", "in", num(1), str(""), num(0))},
		{`not ((b is null))`, tree(Not, b)},
		{`a = -7 or b is null and c like "x"`, tree(Or, a, tree(And, b, c))},
		{`(a = -7 or b is null) and c like "x"`, tree(And, tree(Or, a, b), c)},
		{`a = -7 or (b is null or c like "x")`, tree(Or, a, tree(Or, b, c))},
		{`(a = -7 and b is null) and c like "x"`, tree(And, tree(And, a, b), c)},
		{`not (a = -7 or b is null) or c like "x"`, tree(Or, tree(Not, tree(Or, a, b)), c)},
	} {
		got, errno, at := Read(k.filter)
		takePlacesAway(&got)
		if !reflect.DeepEqual(got, k.want) || errno != api.OK || at != 0 {
			t.Errorf("Read(%q) = %v, %d, %d, want %v", k.filter, got, errno, at, k.want)
		}
	}
}

func takePlacesAway(t *Tree) {
	t.NameAt, t.OperatorAt = 0, 0
	for i := range t.Literals {
		t.Literals[i].At = 0
	}
	for i := range t.Parts {
		takePlacesAway(&t.Parts[i])
	}
}

// places lists those of a tree's names, operators and literals, one test
// behind the other.
func places(t Tree) [][]int {
	var all [][]int
	if t.Kind == Test {
		test := []int{t.NameAt, t.OperatorAt}
		for _, l := range t.Literals {
			test = append(test, l.At)
		}
		all = append(all, test)
	}
	for _, part := range t.Parts {
		all = append(all, places(part)...)
	}
	return all
}

func TestReadTellsPlaces(t *testing.T) {
	for _, k := range []struct {
		filter string
		want   [][]int
	}{
		{`a=1`, [][]int{{0, 1, 2}}},
		{`  a  <=  -1  `, [][]int{{2, 5, 9}}},
		{`not (((a like "x")))`, [][]int{{7, 9, 14}}},
		{`a is null`, [][]int{{0, 2}}},
		{`a in(1, "x,y" ,-2)`, [][]int{{0, 2, 5, 8, 15}}},
		{`a=1or b=2and c=3`, [][]int{{0, 1, 2}, {6, 7, 8}, {13, 14, 15}}},
		{`(a = "é" or not b like"y") and c in ( 1 )`, [][]int{{1, 3, 5}, {17, 19, 23}, {32, 34, 39}}},
	} {
		got, errno, _ := Read(k.filter)
		if errno != api.OK || !reflect.DeepEqual(places(got), k.want) {
			t.Errorf("Read(%q) has the places %v, want %v", k.filter, places(got), k.want)
		}
	}
}

func TestReadGivesNoTreeWithAnError(t *testing.T) {
	for _, filter := range []string{"", "a = 1 b", "(a = 1", "a in (1", "not a", "(((((((a = 1"} {
		got, errno, _ := Read(filter)
		if !reflect.DeepEqual(got, Tree{}) || errno == api.OK {
			t.Errorf("Read(%q) = %v, %d, want no tree and an error", filter, got, errno)
		}
	}
}

func TestIsName(t *testing.T) {
	for _, text := range []string{"a", "z", "abcdefgh", "nota", "lik", "nulls"} {
		if !IsName(text) {
			t.Errorf("IsName(%q) = false", text)
		}
	}
	for _, text := range []string{"", " ", " a", "a ", "a b", "a=", "abcdefghi", "A", "a1", "1", `"a"`, "=", "and", "or", "not", "in", "like", "is", "null", "\xff"} {
		if IsName(text) {
			t.Errorf("IsName(%q) = true", text)
		}
	}
}
