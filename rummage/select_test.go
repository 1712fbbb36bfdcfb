package rummage

import (
	"slices"
	"strconv"
	"strings"
	"testing"

	"rummage/api"
)

func wantSelect(t *testing.T, s *Store, filter string, want ...int) {
	t.Helper()
	if got, errno, at := s.Select(filter); !slices.Equal(got, want) || errno != api.OK || at != 0 {
		t.Errorf("Select(%q) = %v, %d, %d, want %v", filter, got, errno, at, want)
	}
}

// wantNoFind holds that both calls that find tell the error. The spot must be
// one of the store's space.
func wantNoFind(t *testing.T, s *Store, filter string, fault api.Errno, place int) {
	t.Helper()
	if got, errno, at := s.Select(filter); got != nil || errno != fault || at != place {
		t.Errorf("Select(%.80q) = %v, %d, %d, want error %d at %d", filter, got, errno, at, fault, place)
	}
	for _, most := range []int{0, 1, 9999} {
		if got, errno, at := s.Nearest(filter, make([]int, s.space), most); got != nil || errno != fault || at != place {
			t.Errorf("Nearest(%.80q) of %d = %v, %d, %d, want error %d at %d", filter, most, got, errno, at, fault, place)
		}
	}
}

// examples is the store of the document's examples.
func examples(t *testing.T) *Store {
	t.Helper()
	s := newStore(t, 2, numberField("n"), stringField("s"))
	wantPut(t, s, api.OK, 1, []int{0, 0}, num(5), str("ab"))
	wantPut(t, s, api.OK, 2, []int{3, 4}, null, str("b"))
	wantPut(t, s, api.OK, 3, []int{0, 0}, num(-5), null)
	return s
}

func TestP7DocumentExamples(t *testing.T) {
	s := examples(t)
	wantSelect(t, s, `n > 0`, 1)
	wantSelect(t, s, `not n > 0`, 3)
	wantSelect(t, s, `n > 0 or s like "b"`, 1, 2)
	wantSelect(t, s, `not (n > 0 and s = "b")`, 1, 3)
	wantSelect(t, s, `n is null or s is null`, 2, 3)
	wantNoFind(t, s, `x = 1`, api.ErrName, 0)
	wantNoFind(t, s, `n = "5"`, api.ErrKind, 4)
	wantNoFind(t, s, `n like "5"`, api.ErrKind, 2)
}

func signs() []string { return []string{"=", "!=", "<", "<=", ">", ">="} }

func goSays(sign string, below, same bool) bool {
	switch sign {
	case "=":
		return same
	case "!=":
		return !same
	case "<":
		return below
	case "<=":
		return below || same
	case ">":
		return !below && !same
	}
	return !below
}

func TestP7ComparesNumbers(t *testing.T) {
	values := []int{-api.MaxNumber, -10, -9, -1, 0, 1, 9, 10, 100, api.MaxNumber}
	s := newStore(t, 1, stringField("s"), numberField("n"))
	for i, n := range values {
		wantPut(t, s, api.OK, i, []int{0}, null, num(n))
	}
	wantPut(t, s, api.OK, 100, []int{0}, str("0"), null)
	for _, literal := range append(values, 5, -5) {
		for _, sign := range signs() {
			var yes, no []int
			for i, n := range values {
				if goSays(sign, n < literal, n == literal) {
					yes = append(yes, i)
				} else {
					no = append(no, i)
				}
			}
			test := "n " + sign + " " + strconv.Itoa(literal)
			wantSelect(t, s, test, yes...)
			wantSelect(t, s, "not "+test, no...)
		}
	}
}

func TestP7NumbersHoweverTheyAreWritten(t *testing.T) {
	s := newStore(t, 1, numberField("n"))
	for id, n := range []int{0, 7, -7} {
		wantPut(t, s, api.OK, id, []int{0}, num(n))
	}
	for _, zero := range []string{"0", "-0", "0000000", "-0000000"} {
		wantSelect(t, s, "n = "+zero, 0)
		wantSelect(t, s, "n != "+zero, 1, 2)
		wantSelect(t, s, "n in ("+zero+")", 0)
		wantSelect(t, s, "n < "+zero, 2)
		wantSelect(t, s, "n >= "+zero, 0, 1)
	}
	wantSelect(t, s, "n=007", 1)
	wantSelect(t, s, "n in(-0000007,07)", 1, 2)
}

func TestP7ComparesStringsByteByByte(t *testing.T) {
	values := []string{
		"", " ", "\x00", "\x00\x00", "Z", "a", "aa", "ab", "abc", "b", "é", "\xff", "\xff\xff", "\x80", "10", "9", "-1",
		times(api.MaxString, "a"), times(api.MaxString-1, "a") + "b", "null", "and",
	}
	s := newStore(t, 1, stringField("s"), stringField("other"))
	for i, text := range values {
		wantPut(t, s, api.OK, i, []int{0}, str(text), null)
	}
	wantPut(t, s, api.OK, 100, []int{0}, null, str("a"))
	for _, literal := range append(values, "aaa", "x") {
		for _, sign := range append(signs(), "like", "in") {
			var yes, no []int
			for i, text := range values {
				says := false
				switch sign {
				case "like":
					says = len(text) >= len(literal) && text[:len(literal)] == literal
				case "in":
					says = text == literal
				default:
					says = goSays(sign, text < literal, text == literal)
				}
				if says {
					yes = append(yes, i)
				} else {
					no = append(no, i)
				}
			}
			test := `s ` + sign + ` "` + literal + `"`
			if sign == "in" {
				test = `s in ("` + literal + `")`
			}
			wantSelect(t, s, test, yes...)
			wantSelect(t, s, "not "+test, no...)
		}
	}
}

// No literal has a quote in it, but a value may.
func TestP7ValuesWithQuotes(t *testing.T) {
	s := newStore(t, 1, stringField("s"))
	wantPut(t, s, api.OK, 1, []int{0}, str(`"`))
	wantPut(t, s, api.OK, 2, []int{0}, str(`a"b`))
	wantSelect(t, s, `s like "a"`, 2)
	wantSelect(t, s, `s > "!"`, 1, 2)
	wantSelect(t, s, `s < "#"`, 1)
	wantSelect(t, s, `not s = ""`, 1, 2)
}

func TestP7In(t *testing.T) {
	s := newStore(t, 1, numberField("n"), stringField("s"))
	for id := range 5 {
		wantPut(t, s, api.OK, id, []int{0}, num(id), str(times(id, "x")))
	}
	wantPut(t, s, api.OK, 5, []int{0}, null, null)
	wantPut(t, s, api.OK, 6, []int{0}, num(3), str(""))
	wantSelect(t, s, `n in (1)`, 1)
	wantSelect(t, s, `n in (3, 1)`, 1, 3, 6)
	wantSelect(t, s, `n in (9, 4, 4, -1, 0)`, 0, 4)
	wantSelect(t, s, `n in (9, -1)`)
	wantSelect(t, s, `not n in (3, 1)`, 0, 2, 4)
	wantSelect(t, s, `s in ("xx", "", "x x")`, 0, 2, 6)
	wantSelect(t, s, `not s in ("xx", "")`, 1, 3, 4)
	wantSelect(t, s, `n in (3) and s in ("")`, 6)
}

func TestP7Null(t *testing.T) {
	s := newStore(t, 1, numberField("n"), stringField("s"))
	wantPut(t, s, api.OK, 1, []int{0}, null, null)
	wantPut(t, s, api.OK, 2, []int{0}, num(0), null)
	wantPut(t, s, api.OK, 3, []int{0}, null, str(""))
	wantPut(t, s, api.OK, 4, []int{0}, num(0), str(""))
	wantSelect(t, s, `n is null`, 1, 3)
	wantSelect(t, s, `not n is null`, 2, 4)
	wantSelect(t, s, `s is null`, 1, 2)
	wantSelect(t, s, `not s is null`, 3, 4)
	wantSelect(t, s, `n is null and s is null`, 1)
	wantSelect(t, s, `not (n is null or s is null)`, 4)
	for _, test := range []string{`n = 0`, `n <= 0`, `n >= 0`, `n != 1`, `n < 1`, `n > -1`, `n in (0)`} {
		wantSelect(t, s, test, 2, 4)
		wantSelect(t, s, `not `+test)
		wantSelect(t, s, `not not `+test, 2, 4)
	}
	for _, test := range []string{`s = ""`, `s <= ""`, `s >= ""`, `s != "x"`, `s < "x"`, `s in ("")`, `s like ""`} {
		wantSelect(t, s, test, 3, 4)
		wantSelect(t, s, `not `+test)
	}
	for _, test := range []string{`n != 0`, `n < 0`, `n > 0`, `n in (1)`, `s != ""`, `s > ""`, `s < ""`, `s like "x"`} {
		wantSelect(t, s, test)
	}
	wantSelect(t, s, `not n != 0`, 2, 4)
	wantSelect(t, s, `not s like "x"`, 3, 4)
}

// Things 0 to 8 have each two of yes, no and unknown of `a = 1` and `b = 1`:
// yes yes, yes no, yes unknown, no yes and so on.
func nineThings(t *testing.T) *Store {
	t.Helper()
	s := newStore(t, 1, numberField("a"), numberField("b"))
	answers := []api.Value{num(1), num(2), null}
	for i, a := range answers {
		for j, b := range answers {
			wantPut(t, s, api.OK, 3*i+j, []int{0}, a, b)
		}
	}
	return s
}

func TestP7AndOrNot(t *testing.T) {
	s := nineThings(t)
	for _, c := range []struct {
		filter  string
		yes, no []int
	}{
		{`a = 1`, []int{0, 1, 2}, []int{3, 4, 5}},
		{`a = 1 and b = 1`, []int{0}, []int{1, 3, 4, 5, 7}},
		{`a = 1 or b = 1`, []int{0, 1, 2, 3, 6}, []int{4}},
		{`a = 1 and not b = 1`, []int{1}, []int{0, 3, 4, 5, 6}},
		{`not a = 1 or b = 1`, []int{0, 3, 4, 5, 6}, []int{1}},
		{`not (a = 1 and b = 1)`, []int{1, 3, 4, 5, 7}, []int{0}},
		{`not (a = 1 or b = 1)`, []int{4}, []int{0, 1, 2, 3, 6}},
		{`a = 1 and a != 1`, nil, []int{0, 1, 2, 3, 4, 5}},
		{`a = 1 or a != 1`, []int{0, 1, 2, 3, 4, 5}, nil},
		{`a = 1 and b is null`, []int{2}, []int{0, 1, 3, 4, 5, 6, 7}},
		{`a is null or b = 2`, []int{1, 4, 6, 7, 8}, []int{0, 3}},
		{`a is null or not a is null`, []int{0, 1, 2, 3, 4, 5, 6, 7, 8}, nil},
	} {
		wantSelect(t, s, c.filter, c.yes...)
		wantSelect(t, s, `not (`+c.filter+`)`, c.no...)
		wantSelect(t, s, `not not (`+c.filter+`)`, c.yes...)
		wantSelect(t, s, `not (`+c.filter+`) or (`+c.filter+`)`, sorted(c.yes, c.no)...)
		wantSelect(t, s, `not (`+c.filter+`) and (`+c.filter+`)`)
	}
}

func sorted(lists ...[]int) []int {
	return slices.Sorted(slices.Values(slices.Concat(lists...)))
}

func TestP7ChainsAndBrackets(t *testing.T) {
	s := newStore(t, 1, numberField("a"), numberField("b"), numberField("c"))
	for id := range 8 {
		wantPut(t, s, api.OK, id, []int{0}, num(id>>2&1), num(id>>1&1), num(id&1))
	}
	wantSelect(t, s, `a = 1 or b = 1 or c = 1`, 1, 2, 3, 4, 5, 6, 7)
	wantSelect(t, s, `a = 1 and b = 1 and c = 1`, 7)
	wantSelect(t, s, `a = 1 or b = 1 and c = 1`, 3, 4, 5, 6, 7)
	wantSelect(t, s, `(a = 1 or b = 1) and c = 1`, 3, 5, 7)
	wantSelect(t, s, `a = 1 and b = 1 or c = 1`, 1, 3, 5, 6, 7)
	wantSelect(t, s, `a = 1 and (b = 1 or c = 1)`, 5, 6, 7)
	wantSelect(t, s, `not a = 1 and b = 1`, 2, 3)
	wantSelect(t, s, `not (a = 1 and b = 1)`, 0, 1, 2, 3, 4, 5)
	wantSelect(t, s, `not a = 1 or b = 1`, 0, 1, 2, 3, 6, 7)
	wantSelect(t, s, `not (a = 1 or b = 1)`, 0, 1)
	wantSelect(t, s, `not (not a = 1 or not b = 1) and not c = 1`, 6)
	wantSelect(t, s, `((((((a = 1))))))`, 4, 5, 6, 7)
	wantSelect(t, s, `not not not not not not a = 1`, 4, 5, 6, 7)
	wantSelect(t, s, `a=1`+times(31, `or a=2`)+`or b=1`, 2, 3, 4, 5, 6, 7)
	wantSelect(t, s, `a=1`+times(26, `and a=1`)+`and b=1`, 6, 7)
}

// One value in several fields, and fields whose names begin alike.
func TestP7FieldsByTheirNames(t *testing.T) {
	s := newStore(t, 1, numberField("aa"), stringField("s"), numberField("a"), stringField("aaa"))
	wantPut(t, s, api.OK, 1, []int{0}, num(1), str("x"), num(2), str("y"))
	wantPut(t, s, api.OK, 2, []int{0}, num(2), str("y"), num(1), str("x"))
	wantPut(t, s, api.OK, 3, []int{0}, null, str("x"), num(1), null)
	wantPut(t, s, api.OK, 4, []int{0}, num(1), null, null, str("x"))
	wantSelect(t, s, `aa = 1`, 1, 4)
	wantSelect(t, s, `a = 1`, 2, 3)
	wantSelect(t, s, `a < 2`, 2, 3)
	wantSelect(t, s, `not aa = 1`, 2)
	wantSelect(t, s, `not a > 1`, 2, 3)
	wantSelect(t, s, `s like "x"`, 1, 3)
	wantSelect(t, s, `aaa like "x"`, 2, 4)
	wantSelect(t, s, `aaa is null`, 3)
	wantSelect(t, s, `a is null`, 4)
	wantNoFind(t, s, `aaaa = 1`, api.ErrName, 0)
	wantNoFind(t, s, `ss = "x"`, api.ErrName, 0)
}

func TestP7WithoutThings(t *testing.T) {
	s := newStore(t, 1, numberField("n"), stringField("s"))
	for _, filter := range []string{`n = 1`, `not n = 1`, `n is null`, `not n is null`, `s like ""`, `n is null or not n is null`} {
		wantSelect(t, s, filter)
	}
	wantNoFind(t, s, `x is null`, api.ErrName, 0)
	wantNoFind(t, s, `s < 1`, api.ErrKind, 4)
}

func TestP7InOrderOfTheirNumbers(t *testing.T) {
	s := newStore(t, 1, numberField("n"))
	for _, id := range []int{4095, 64, 0, 4032, 1, 63, 127, 2000, 128, 65, 4094, 62} {
		wantPut(t, s, api.OK, id, []int{0}, num(-id))
	}
	wantSelect(t, s, `n <= 0`, 0, 1, 62, 63, 64, 65, 127, 128, 2000, 4032, 4094, 4095)
	wantSelect(t, s, `n < 0`, 1, 62, 63, 64, 65, 127, 128, 2000, 4032, 4094, 4095)
	wantSelect(t, s, `n in (0, -4095)`, 0, 4095)
	wantSelect(t, s, `not n > -4094`, 4094, 4095)
}

func TestP7AsManyThingsAsThereMayBe(t *testing.T) {
	s := newStore(t, 1, numberField("n"), numberField("m"))
	var even, odd, all []int
	for id := range api.MaxID + 1 {
		wantPut(t, s, api.OK, id, []int{0}, num(id), num(id%2))
		all = append(all, id)
		if id%2 == 0 {
			even = append(even, id)
		} else {
			odd = append(odd, id)
		}
	}
	wantSelect(t, s, `m = 0`, even...)
	wantSelect(t, s, `not m = 0`, odd...)
	wantSelect(t, s, `n >= 0`, all...)
	wantSelect(t, s, `m is null`)
	wantSelect(t, s, `n > 4090 and m = 0`, 4092, 4094)
}

func TestP7ThingsPutAnewAndDropped(t *testing.T) {
	s := examples(t)
	all := `n is null or not n is null`
	wantPut(t, s, api.OK, 2, []int{0, 0}, num(5), str("ab"))
	wantSelect(t, s, `n = 5`, 1, 2)
	wantSelect(t, s, `n >= 5`, 1, 2)
	wantSelect(t, s, `s like "a"`, 1, 2)
	wantSelect(t, s, `n is null`)
	wantSelect(t, s, `s = "b"`)
	wantPut(t, s, api.OK, 1, []int{0, 0}, null, str("b"))
	wantSelect(t, s, `n = 5`, 2)
	wantSelect(t, s, `not n = 5`, 3)
	wantSelect(t, s, `n is null`, 1)
	wantSelect(t, s, `s > "ab"`, 1)
	// The same once more, and what is refused, change nothing.
	wantPut(t, s, api.OK, 1, []int{0, 0}, null, str("b"))
	wantPut(t, s, api.ErrArg, 1, []int{0}, num(5), str("ab"))
	wantPut(t, s, api.ErrKind, 1, []int{0, 0}, num(5), num(5))
	wantPut(t, s, api.ErrKind, 4, []int{0, 0}, num(5), num(5))
	wantSelect(t, s, `n = 5`, 2)
	wantSelect(t, s, all, 1, 2, 3)
	wantDrop(t, s, 2)
	wantSelect(t, s, `n = 5`)
	wantSelect(t, s, `not n = 5`, 3)
	wantSelect(t, s, all, 1, 3)
	wantDrop(t, s, 1)
	wantDrop(t, s, 3)
	wantSelect(t, s, all)
	wantSelect(t, s, `not n = 5`)
	wantPut(t, s, api.OK, 3, []int{0, 0}, num(5), null)
	wantSelect(t, s, `n = 5`, 3)
	wantSelect(t, s, all, 3)
}

func TestP7PlainsErrorComesFirst(t *testing.T) {
	s := examples(t)
	wantNoFind(t, s, times(201, " "), api.ErrLong, 0)
	wantNoFind(t, s, `x = 1 or n like "5" or `+times(190, " "), api.ErrLong, 0)
	wantNoFind(t, s, strings.Repeat("(", 5000000), api.ErrLong, 0)
	wantNoFind(t, s, ``, api.ErrText, 0)
	wantNoFind(t, s, `x = 1 and`, api.ErrText, 9)
	wantNoFind(t, s, `x = 1 b`, api.ErrText, 6)
	wantNoFind(t, s, `n = "5" or n = 12345678`, api.ErrText, 15)
	wantNoFind(t, s, `n like 5`, api.ErrText, 7)
	wantNoFind(t, s, `x like 5`, api.ErrText, 7)
	wantNoFind(t, s, `x = null`, api.ErrText, 4)
	wantNoFind(t, s, `s in (5, x)`, api.ErrText, 9)
	wantNoFind(t, s, `x = 1 or (((((((`, api.ErrDeep, 15)
	wantNoFind(t, s, `n = "5" or not not not not not not not n = 5`, api.ErrDeep, 35)
}

func TestP7Names(t *testing.T) {
	s := examples(t)
	for _, test := range []string{`x = 1`, `x = "1"`, `x in (1, "1")`, `x like "1"`, `x is null`, `nn = 1`, `sn >= 1`, `abcdefgh is null`} {
		wantNoFind(t, s, test, api.ErrName, 0)
		wantNoFind(t, s, `  `+test, api.ErrName, 2)
		wantNoFind(t, s, `not(`+test+`)`, api.ErrName, 4)
		wantNoFind(t, s, `n = 1 and s = "1" or `+test, api.ErrName, 21)
		wantNoFind(t, s, `(n = 1 or `+test+` ) and s is null`, api.ErrName, 10)
	}
}

func TestP7Kinds(t *testing.T) {
	s := examples(t)
	for _, sign := range signs() {
		wantNoFind(t, s, `n`+sign+`"5"`, api.ErrKind, 1+len(sign))
		wantNoFind(t, s, `n `+sign+`  ""`, api.ErrKind, 4+len(sign))
		wantNoFind(t, s, `s `+sign+` 5`, api.ErrKind, 3+len(sign))
		wantNoFind(t, s, `s `+sign+` -0`, api.ErrKind, 3+len(sign))
	}
	wantNoFind(t, s, `n like "5"`, api.ErrKind, 2)
	wantNoFind(t, s, `n  like""`, api.ErrKind, 3)
	wantNoFind(t, s, `not (s like "x" or n like "x")`, api.ErrKind, 21)
	wantNoFind(t, s, `n in ("5")`, api.ErrKind, 6)
	wantNoFind(t, s, `n in (5, 6, "7", 8, "9")`, api.ErrKind, 12)
	wantNoFind(t, s, `n in("5",5)`, api.ErrKind, 5)
	wantNoFind(t, s, `s in ("5", 6)`, api.ErrKind, 11)
	wantNoFind(t, s, `s in (5, "6", 7)`, api.ErrKind, 6)
}

func TestP7TheFirstTokenIsTold(t *testing.T) {
	s := examples(t)
	wantNoFind(t, s, `x = 1 or s = 1 or n like "x"`, api.ErrName, 0)
	wantNoFind(t, s, `s = 1 or x = 1 or n like "x"`, api.ErrKind, 4)
	wantNoFind(t, s, `n like "x" or x = 1 or s = 1`, api.ErrKind, 2)
	wantNoFind(t, s, `n = 1 and (s in ("a", 1) or x = 1)`, api.ErrKind, 22)
	wantNoFind(t, s, `n = 1 and (s in ("a", "b") or x = 1) and n = "1"`, api.ErrName, 30)
	wantNoFind(t, s, `not n = "1" and x = 1`, api.ErrKind, 8)
	wantNoFind(t, s, `(n = 1 or x = 1) and s = 1`, api.ErrName, 10)
	wantNoFind(t, s, `x = 1 or y = 1`, api.ErrName, 0)
	wantNoFind(t, s, `n = 1 or y = 1 or x = 1`, api.ErrName, 9)
	// What the filter says is settled by its beginning, but its errors are not.
	wantNoFind(t, s, `n is null and not n is null and x = 1`, api.ErrName, 32)
	wantNoFind(t, s, `n is null or not n is null or s = 1`, api.ErrKind, 34)
}

func TestP7NothingChangesByAnError(t *testing.T) {
	s := examples(t)
	for _, filter := range []string{`x = 1`, `n = "5"`, `n = 1 or`, times(7, "("), times(201, "x")} {
		s.Select(filter)
		s.Nearest(filter, []int{0, 0}, 5)
		s.Nearest(filter, nil, -5)
	}
	wantSelect(t, s, `n is null or not n is null`, 1, 2, 3)
	wantSelect(t, s, `((((((n = 5))))))`, 1)
	wantThing(t, s, 1, []int{0, 0}, num(5), str("ab"))
	wantThing(t, s, 2, []int{3, 4}, null, str("b"))
	wantThing(t, s, 3, []int{0, 0}, num(-5), null)
}
