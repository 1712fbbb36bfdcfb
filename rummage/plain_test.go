package rummage

import (
	"strings"
	"testing"

	"rummage/api"
)

func wantForm(t *testing.T, filter, want string) {
	t.Helper()
	if got, errno, at := Plain(filter); got != want || errno != api.OK || at != 0 {
		t.Errorf("Plain(%q) = %q, %d, %d, want %q", filter, got, errno, at, want)
	}
}

func wantFault(t *testing.T, filter string, fault api.Errno, place int) {
	t.Helper()
	if got, errno, at := Plain(filter); got != "" || errno != fault || at != place {
		t.Errorf("Plain(%.80q) = %q, %d, %d, want error %d at %d", filter, got, errno, at, fault, place)
	}
}

func times(n int, text string) string { return strings.Repeat(text, n) }

type formCase struct{ filter, plain string }

func checkForms(t *testing.T, cases []formCase) {
	t.Helper()
	for _, c := range cases {
		wantForm(t, c.filter, c.plain)
		wantForm(t, c.plain, c.plain)
	}
}

func TestP4DocumentExamples(t *testing.T) {
	checkForms(t, []formCase{
		{`a=1 and(b<-07or c is null)`, `a = 1 and (b < -7 or c is null)`},
		{`((a = 1))and(b = 2 and c in(1,"x"))`, `a = 1 and b = 2 and c in (1, "x")`},
		{`not(not a like"x")`, `not not a like "x"`},
		{`not (a = 1 and b = 2)`, `not (a = 1 and b = 2)`},
	})
}

func TestP4Tests(t *testing.T) {
	checkForms(t, []formCase{
		{`a=1`, `a = 1`},
		{`a!=1`, `a != 1`},
		{`a<1`, `a < 1`},
		{`a<=1`, `a <= 1`},
		{`a>1`, `a > 1`},
		{`a>=1`, `a >= 1`},
		{`a<-1`, `a < -1`},
		{`a="x"`, `a = "x"`},
		{`a like"x"`, `a like "x"`},
		{`a  is  null`, `a is null`},
		{`a in(1)`, `a in (1)`},
		{`a in ( 1 , "x",-2 , "" )`, `a in (1, "x", -2, "")`},
	})
}

func TestP4Blanks(t *testing.T) {
	checkForms(t, []formCase{
		{`   a   =   1   `, `a = 1`},
		{`a=1and b=2or c=3`, `a = 1 and b = 2 or c = 3`},
		{`a="x"and b="y"or(c is null)`, `a = "x" and b = "y" or c is null`},
		{`not( a=1 or b=2 )`, `not (a = 1 or b = 2)`},
		{`a=1 and((b=2 or c=3)and d=4 or e=5)`, `a = 1 and ((b = 2 or c = 3) and d = 4 or e = 5)`},
	})
}

func TestP4Words(t *testing.T) {
	checkForms(t, []formCase{
		{`nota = 1`, `nota = 1`},
		{`notnot is null`, `notnot is null`},
		{`ands = 1 and ors = 2`, `ands = 1 and ors = 2`},
		{`nulls in (1)`, `nulls in (1)`},
		{`inn like "x" or liken is null`, `inn like "x" or liken is null`},
	})
}

func TestP4Numbers(t *testing.T) {
	checkForms(t, []formCase{
		{`a = 0`, `a = 0`},
		{`a = -0`, `a = 0`},
		{`a = 0000000`, `a = 0`},
		{`a = -0000000`, `a = 0`},
		{`a = 007`, `a = 7`},
		{`a = -007`, `a = -7`},
		{`a = 0000010`, `a = 10`},
		{`a = 1000000`, `a = 1000000`},
		{`a = 9999999`, `a = 9999999`},
		{`a = -9999999`, `a = -9999999`},
		{`a in (-0,00,-010)`, `a in (0, 0, -10)`},
	})
}

func TestP4StringsStayAsTheyAre(t *testing.T) {
	for _, s := range []string{"", " ", "  x  ", "(", ")", ",", "-0", "007", "not", "a=1and b=2", "\x00\n\t\\", "\xff\xfe\x80", "éé"} {
		wantForm(t, `a="`+s+`"`, `a = "`+s+`"`)
		wantForm(t, `a like"`+s+`"`, `a like "`+s+`"`)
		wantForm(t, `a in("`+s+`" ,"`+s+`")`, `a in ("`+s+`", "`+s+`")`)
	}
}

func TestP4BracketsThatGo(t *testing.T) {
	checkForms(t, []formCase{
		{`(a = 1)`, `a = 1`},
		{`(((a in (1, 2))))`, `a in (1, 2)`},
		{`not (a = 1)`, `not a = 1`},
		{`not (not (a = 1))`, `not not a = 1`},
		{`(not a = 1)`, `not a = 1`},
		{`(not a = 1) and b = 2`, `not a = 1 and b = 2`},
		{`(a = 1 or b = 2)`, `a = 1 or b = 2`},
		{`(a = 1 and b = 2) or c = 3`, `a = 1 and b = 2 or c = 3`},
		{`a = 1 or (b = 2 and c = 3)`, `a = 1 or b = 2 and c = 3`},
		{`(a = 1 and b = 2) and c = 3`, `a = 1 and b = 2 and c = 3`},
		{`a = 1 and (b = 2 and (c = 3 and d = 4))`, `a = 1 and b = 2 and c = 3 and d = 4`},
		{`(a = 1 or b = 2) or c = 3`, `a = 1 or b = 2 or c = 3`},
		{`a = 1 or ((b = 2 or c = 3) or d = 4)`, `a = 1 or b = 2 or c = 3 or d = 4`},
		{`a = 1 or (b = 2 and c = 3 or d = 4)`, `a = 1 or b = 2 and c = 3 or d = 4`},
	})
}

func TestP4BracketsThatStay(t *testing.T) {
	checkForms(t, []formCase{
		{`(a = 1 or b = 2) and c = 3`, `(a = 1 or b = 2) and c = 3`},
		{`((a = 1 or b = 2)) and c = 3`, `(a = 1 or b = 2) and c = 3`},
		{`a = 1 and (b = 2 or c = 3)`, `a = 1 and (b = 2 or c = 3)`},
		{`a = 1 and (b = 2 and (c = 3 or d = 4))`, `a = 1 and b = 2 and (c = 3 or d = 4)`},
		{`not ((a = 1 or b = 2))`, `not (a = 1 or b = 2)`},
		{`not ((a = 1 and b = 2))`, `not (a = 1 and b = 2)`},
		{`not (not (a = 1 and b = 2))`, `not not (a = 1 and b = 2)`},
		{`(not (a = 1 or b = 2)) and c = 3`, `not (a = 1 or b = 2) and c = 3`},
		{`not ((a = 1 or b = 2) and c = 3)`, `not ((a = 1 or b = 2) and c = 3)`},
		{`not (a = 1 and (b = 2 and c = 3))`, `not (a = 1 and b = 2 and c = 3)`},
	})
}

func TestP4MayOutgrowMaxFilter(t *testing.T) {
	filter := "a=1" + times(24, "or a=1")
	plain := "a = 1" + times(24, " or a = 1")
	if len(filter) > api.MaxFilter || len(plain) <= api.MaxFilter {
		t.Fatal("lengths", len(filter), len(plain))
	}
	wantForm(t, filter, plain)
	wantFault(t, plain, api.ErrLong, 0)
}

func TestP3MaxFilter(t *testing.T) {
	wantForm(t, "a = 1"+times(api.MaxFilter-5, " "), "a = 1")
	wantFault(t, "a = 1"+times(api.MaxFilter-4, " "), api.ErrLong, 0)
	wantFault(t, times(api.MaxFilter, " "), api.ErrText, api.MaxFilter)
	wantFault(t, times(api.MaxFilter+1, " "), api.ErrLong, 0)
	wantFault(t, times(api.MaxFilter+1, "("), api.ErrLong, 0)
	wantFault(t, times(api.MaxFilter+1, "\xff"), api.ErrLong, 0)
	// The bound is on bytes: these are fewer runes than that.
	wantFault(t, times(api.MaxFilter/2, "é"), api.ErrText, 0)
	wantFault(t, times(api.MaxFilter/2+1, "é"), api.ErrLong, 0)
}

func TestP3MaxName(t *testing.T) {
	name := times(api.MaxName, "z")
	wantForm(t, name+" = 1", name+" = 1")
	wantFault(t, name+"z = 1", api.ErrText, 0)
	wantFault(t, "a = 1 and "+name+"z = 1", api.ErrText, 10)
	wantFault(t, "a "+name+"z", api.ErrText, 2)
}

func TestP3MaxString(t *testing.T) {
	full := times(api.MaxString, "x")
	wantForm(t, `a = "`+full+`"`, `a = "`+full+`"`)
	wantForm(t, `a like "`+full+`"`, `a like "`+full+`"`)
	wantFault(t, `a = "`+full+`x"`, api.ErrText, 4)
	wantFault(t, `a like "`+full+`x"`, api.ErrText, 7)
	wantFault(t, `a in ("`+full+`", "`+full+`x")`, api.ErrText, 22)
	// The bound is on bytes, not on runes.
	wantForm(t, `a = "éééééé"`, `a = "éééééé"`)
	wantFault(t, `a = "ééééééé"`, api.ErrText, 4)
}

func TestP3Digits(t *testing.T) {
	wantForm(t, "a = 1234567", "a = 1234567")
	wantForm(t, "a = -1234567", "a = -1234567")
	wantForm(t, "a = 0000001", "a = 1")
	wantFault(t, "a = 12345678", api.ErrText, 4)
	wantFault(t, "a = -12345678", api.ErrText, 4)
	wantFault(t, "a = 00000001", api.ErrText, 4)
	wantFault(t, "a = "+times(190, "9"), api.ErrText, 4)
	wantFault(t, "a in (1, 00000000)", api.ErrText, 9)
}

func TestP3MaxDepthJustMet(t *testing.T) {
	wantForm(t, times(api.MaxDepth, "(")+"a=1"+times(api.MaxDepth, ")"), "a = 1")
	wantForm(t, times(api.MaxDepth, "not ")+"a = 1", times(api.MaxDepth, "not ")+"a = 1")
	wantForm(t, times(3, "not (")+"a = 1"+times(3, ")"), "not not not a = 1")
	// The brackets of an in are no step down.
	wantForm(t, times(api.MaxDepth, "(")+"a in(1)"+times(api.MaxDepth, ")"), "a in (1)")
}

func TestP3MaxDepthJustPassed(t *testing.T) {
	wantFault(t, times(7, "("), api.ErrDeep, 6)
	wantFault(t, times(7, "(")+"a=1"+times(7, ")"), api.ErrDeep, 6)
	wantFault(t, times(7, "not "), api.ErrDeep, 24)
	wantFault(t, times(6, "(")+" not a = 1", api.ErrDeep, 7)
	wantFault(t, times(6, "not ")+" (a = 1)", api.ErrDeep, 25)
	wantFault(t, times(3, "not (")+"not a = 1", api.ErrDeep, 15)
	wantFault(t, times(6, "(")+"a = 1 or (", api.ErrDeep, 15)
}

func TestP3StepsAreTakenBack(t *testing.T) {
	deep := times(api.MaxDepth, "(") + "a=1" + times(api.MaxDepth, ")")
	wantForm(t, deep+"and"+deep+"or"+deep, "a = 1 and a = 1 or a = 1")
	nots := times(api.MaxDepth, "not ") + "a = 1"
	wantForm(t, nots+" and "+nots+" or "+nots, nots+" and "+nots+" or "+nots)
	// The five nots end with their part, the bracket about them does not.
	inside := times(5, "not ") + "a = 1"
	wantForm(t, "("+inside+" or "+inside+")", inside+" or "+inside)
	wantFault(t, "("+inside+" or not "+inside, api.ErrDeep, 50)
	// A not is open as long as the bracket behind it.
	wantFault(t, times(5, "not ")+"(a = 1 and (", api.ErrDeep, 31)
	wantFault(t, times(5, "not ")+"(a = 1) and "+times(7, "("), api.ErrDeep, 38)
}

func TestP3DeepOnlyWhereItMayStand(t *testing.T) {
	deep := times(api.MaxDepth, "(")
	wantFault(t, deep+"a (", api.ErrText, 8)
	wantFault(t, deep+"a not", api.ErrText, 8)
	wantFault(t, deep+"a = (", api.ErrText, 10)
	wantFault(t, deep+"a = 1 not", api.ErrText, 12)
	wantFault(t, deep+"a = 1 (", api.ErrText, 12)
	wantFault(t, deep+"a in ((", api.ErrText, 12)
	wantFault(t, deep+"a in (not", api.ErrText, 12)
	wantFault(t, deep+")(", api.ErrText, 6)
}

type faultCase struct {
	filter string
	at     int
}

func checkTextFaults(t *testing.T, cases []faultCase) {
	t.Helper()
	for _, c := range cases {
		wantFault(t, c.filter, api.ErrText, c.at)
	}
}

func TestP3DocumentExamples(t *testing.T) {
	checkTextFaults(t, []faultCase{
		{`a =`, 3}, {`a = b`, 4}, {`and = 1`, 0}, {`a = 1 b`, 6}, {`a like 5`, 7}, {`a = 12345678`, 4},
	})
	wantFault(t, `(((((((`, api.ErrDeep, 6)
}

func TestP3WrongTokens(t *testing.T) {
	checkTextFaults(t, []faultCase{
		{`a = -`, 4}, {`a = - 1`, 4}, {`a = --1`, 4}, {`a = +1`, 4}, {`a = 1-`, 5}, {`a = 1.5`, 5},
		{`a = "`, 4}, {`a = "x`, 4}, {`a = 'x'`, 4}, {`a = 1 "`, 6}, {`a = "x""`, 7},
		{`a ! 1`, 2}, {`a ! = 1`, 2}, {`a =! 1`, 3}, {`a == 1`, 3}, {`a <> 1`, 3}, {`a =< 1`, 3}, {`a < = 1`, 4},
		{"a\t= 1", 1}, {"a = 1\n", 5}, {"a = 1\x00", 5}, {"\xff", 0}, {"a = \x80", 4}, {`é = 1`, 0},
		{`A = 1`, 0}, {`aB = 1`, 1}, {`a_b = 1`, 1}, {`a1 = 1`, 1}, {`a = 1 AND b = 2`, 6}, {`[a = 1]`, 0}, {`a = 1;`, 5},
	})
}

func TestP3WordsThatAreNoNames(t *testing.T) {
	for _, w := range []string{"and", "or", "in", "like", "is", "null"} {
		wantFault(t, w, api.ErrText, 0)
		wantFault(t, w+" = 1", api.ErrText, 0)
		wantFault(t, " ("+w+" is null)", api.ErrText, 2)
		wantFault(t, "not "+w+" is null", api.ErrText, 4)
	}
	wantFault(t, "not = 1", api.ErrText, 4)
	wantFault(t, "not is null", api.ErrText, 4)
}

func TestP3NoFilterGoesOnSo(t *testing.T) {
	checkTextFaults(t, []faultCase{
		{`1 = a`, 0}, {`"a" = 1`, 0}, {`= 1`, 0}, {`, a = 1`, 0}, {`) a = 1`, 0}, {`()`, 1}, {`(and`, 1},
		{`a b`, 2}, {`a 1`, 2}, {`a "x"`, 2}, {`a and b`, 2}, {`a null`, 2}, {`a, b`, 1}, {`a) = 1`, 1},
		{`a = null`, 4}, {`a = not`, 4}, {`a = (1)`, 4}, {`a = , 1`, 4}, {`a = )`, 4},
		{`a like b`, 7}, {`a like ("x")`, 7}, {`a like null`, 7}, {`a not like "x"`, 2},
		{`a is 1`, 5}, {`a is not null`, 5}, {`a is "null"`, 5}, {`a is nulls`, 5}, {`a is null null`, 10},
		{`a in 1`, 5}, {`a in "x"`, 5}, {`a in ()`, 6}, {`a in (b)`, 6}, {`a in (null)`, 6}, {`a in (,1)`, 6},
		{`a in (1 2)`, 8}, {`a in (1,)`, 8}, {`a in (1,,2)`, 8}, {`a in (1, b)`, 9}, {`a in ((1))`, 6}, {`a in (1))`, 8},
		{`a = 1)`, 5}, {`(a = 1))`, 7}, {`a = 1 2`, 6}, {`a = 1 = 2`, 6}, {`a = 1, b = 2`, 5}, {`a = 1 not b = 2`, 6},
		{`a = 1 (b = 2)`, 6}, {`a = 1 and and`, 10}, {`a = 1 or and`, 9}, {`a = 1 and )`, 10}, {`(a = 1 or)`, 9},
		{`a = 1 andb = 2`, 6}, {`a = "x""y"`, 7}, {`(a = 1) b`, 8}, {`not )`, 4},
	})
}

func TestP3TextThatEndsTooSoon(t *testing.T) {
	for _, filter := range []string{
		``, ` `, `a`, `a `, `a =`, `a = `, `a like`, `a is`, `a in`, `a in (`, `a in (1`, `a in (1,`, `a in (1, 2  `,
		`not`, `not not `, `(`, `(a`, `(a = 1`, `(a = 1 `, `((a = 1)`, `a = 1 and`, `a = 1 or `, `a = 1 and not`, `((((((`,
	} {
		wantFault(t, filter, api.ErrText, len(filter))
	}
}

func TestP3TheFirstFaultIsTold(t *testing.T) {
	wantFault(t, `a = = `+times(7, "("), api.ErrText, 4)
	wantFault(t, times(7, "(")+` abcdefghi = 12345678 "`, api.ErrDeep, 6)
	wantFault(t, `a = b and "`, api.ErrText, 4)
	wantFault(t, `a = 1 ) "`, api.ErrText, 6)
}
