package rummage

import (
	"math"
	"slices"
	"strings"
	"testing"

	"rummage/api"
)

func num(n int) api.Value { return api.Value{Kind: api.Number, N: n} }

func str(s string) api.Value { return api.Value{Kind: api.String, S: s} }

var null = api.Value{}

func newStore(t *testing.T, space int, fields ...api.Field) *Store {
	t.Helper()
	s, errno := New(fields, space)
	if s == nil || errno != api.OK {
		t.Fatalf("New(%v, %d) = %p, %d", fields, space, s, errno)
	}
	return s
}

func wantPut(t *testing.T, s *Store, want api.Errno, id int, spot []int, values ...api.Value) {
	t.Helper()
	if errno := s.Put(id, spot, values); errno != want {
		t.Errorf("Put(%d, %v, %v) = %d, want %d", id, spot, values, errno, want)
	}
}

func wantThing(t *testing.T, s *Store, id int, spot []int, values ...api.Value) {
	t.Helper()
	gotSpot, gotValues, errno := s.Get(id)
	if !slices.Equal(gotSpot, spot) || !slices.Equal(gotValues, values) || errno != api.OK {
		t.Errorf("Get(%d) = %v, %v, %d, want %v, %v", id, gotSpot, gotValues, errno, spot, values)
	}
}

func wantNone(t *testing.T, s *Store, id int) {
	t.Helper()
	if spot, values, errno := s.Get(id); spot != nil || values != nil || errno != api.ErrNone {
		t.Errorf("Get(%d) = %v, %v, %d, want nothing and ErrNone", id, spot, values, errno)
	}
	if errno := s.Drop(id); errno != api.ErrNone {
		t.Errorf("Drop(%d) = %d, want ErrNone", id, errno)
	}
}

func wantDrop(t *testing.T, s *Store, id int) {
	t.Helper()
	if errno := s.Drop(id); errno != api.OK {
		t.Errorf("Drop(%d) = %d, want OK", id, errno)
	}
	wantNone(t, s, id)
}

// wantRefused also holds that a thing that was there, one beside it, and one
// that was not, are as they were.
func wantRefused(t *testing.T, want api.Errno, id int, spot []int, values ...api.Value) {
	t.Helper()
	s := newStore(t, 2, numberField("n"), stringField("s"))
	wantPut(t, s, api.OK, 5, []int{1, 2}, num(3), str("x"))
	wantPut(t, s, api.OK, 6, []int{-1, -2}, null, str("y"))
	wantPut(t, s, want, id, spot, values...)
	wantThing(t, s, 5, []int{1, 2}, num(3), str("x"))
	wantThing(t, s, 6, []int{-1, -2}, null, str("y"))
	if id != 5 && id != 6 {
		wantNone(t, s, id)
	}
}

func TestP6PutGetDrop(t *testing.T) {
	s := newStore(t, 2, numberField("n"), stringField("s"))
	wantPut(t, s, api.OK, 1, []int{0, 0}, num(5), str("ab"))
	wantPut(t, s, api.OK, 2, []int{3, 4}, null, str("b"))
	wantPut(t, s, api.OK, 3, []int{0, 0}, num(-5), null)
	wantThing(t, s, 1, []int{0, 0}, num(5), str("ab"))
	wantThing(t, s, 2, []int{3, 4}, null, str("b"))
	wantThing(t, s, 3, []int{0, 0}, num(-5), null)
	wantNone(t, s, 0)
	wantNone(t, s, 4)
	wantDrop(t, s, 2)
	wantThing(t, s, 1, []int{0, 0}, num(5), str("ab"))
	wantThing(t, s, 3, []int{0, 0}, num(-5), null)
	wantPut(t, s, api.OK, 2, []int{7, 8}, num(0), str(""))
	wantThing(t, s, 2, []int{7, 8}, num(0), str(""))
}

func TestP6PutInPlaceOfWhatWasThere(t *testing.T) {
	s := newStore(t, 2, numberField("n"), stringField("s"))
	for _, spot := range [][]int{{1, 2}, {3, 4}, {3, 4}, {0, 0}} {
		for _, values := range [][]api.Value{{num(1), str("x")}, {null, str("x")}, {num(1), null}, {null, null}, {num(2), str("y")}} {
			wantPut(t, s, api.OK, 9, spot, values...)
			wantThing(t, s, 9, spot, values...)
		}
	}
	wantDrop(t, s, 9)
}

func TestP6ValuesInTheOrderOfTheFields(t *testing.T) {
	s := newStore(t, 4, fieldsOf("d", "c", "b", "a")...)
	wantPut(t, s, api.OK, 1, []int{4, 3, 2, 1}, num(4), str("3"), num(2), str("1"))
	wantPut(t, s, api.OK, 2, []int{1, 2, 3, 4}, num(2), str("1"), num(4), str("3"))
	wantThing(t, s, 1, []int{4, 3, 2, 1}, num(4), str("3"), num(2), str("1"))
	wantThing(t, s, 2, []int{1, 2, 3, 4}, num(2), str("1"), num(4), str("3"))
	wantPut(t, s, api.ErrKind, 1, []int{4, 3, 2, 1}, str("1"), num(2), str("3"), num(4))
}

func TestP6Numbers(t *testing.T) {
	s := newStore(t, 1, numberField("n"))
	for id := range api.MaxID + 1 {
		wantPut(t, s, api.OK, id, []int{id % api.MaxCoord}, num(-id))
	}
	for id := range api.MaxID + 1 {
		wantThing(t, s, id, []int{id % api.MaxCoord}, num(-id))
	}
	wantDrop(t, s, 0)
	wantDrop(t, s, api.MaxID)
	wantThing(t, s, 1, []int{1}, num(-1))
	wantThing(t, s, api.MaxID-1, []int{94}, num(1-api.MaxID))
	for _, id := range []int{-1, api.MaxID + 1, math.MaxInt, math.MinInt} {
		wantRefused(t, api.ErrArg, id, []int{0, 0}, num(1), str(""))
		wantNone(t, s, id)
	}
}

func TestP6Spots(t *testing.T) {
	for space := 1; space <= api.MaxSpace; space++ {
		s := newStore(t, space, numberField("n"))
		for count := range api.MaxSpace + 3 {
			spot := make([]int, count)
			want := api.ErrArg
			if count == space {
				want = api.OK
			}
			wantPut(t, s, want, 1, spot, num(1))
		}
		for i := range space {
			spot := make([]int, space)
			for _, n := range []int{-api.MaxCoord, api.MaxCoord, 0, 1, -1} {
				spot[i] = n
				wantPut(t, s, api.OK, 1, spot, num(1))
				wantThing(t, s, 1, spot, num(1))
			}
			was := slices.Clone(spot)
			for _, n := range []int{-api.MaxCoord - 1, api.MaxCoord + 1, math.MaxInt, math.MinInt} {
				spot[i] = n
				wantPut(t, s, api.ErrArg, 1, spot, num(2))
			}
			wantThing(t, s, 1, was, num(1))
		}
	}
	wantRefused(t, api.ErrArg, 5, nil, num(1), str(""))
	wantRefused(t, api.ErrArg, 5, []int{}, num(1), str(""))
	wantRefused(t, api.ErrArg, 5, make([]int, 1000), num(1), str(""))
}

func TestP6CountOfValues(t *testing.T) {
	names := []string{"a", "b", "c", "d"}
	for fields := 1; fields <= api.MaxFields; fields++ {
		s := newStore(t, 1, fieldsOf(names[:fields]...)...)
		for count := range api.MaxFields + 3 {
			want := api.ErrArg
			if count == fields {
				want = api.OK
			}
			wantPut(t, s, want, 1, []int{0}, make([]api.Value, count)...)
		}
		wantThing(t, s, 1, []int{0}, make([]api.Value, fields)...)
	}
	wantRefused(t, api.ErrArg, 5, []int{0, 0})
	wantRefused(t, api.ErrArg, 4, []int{0, 0}, make([]api.Value, 1000)...)
}

func TestP6Values(t *testing.T) {
	s := newStore(t, 1, numberField("n"), stringField("s"))
	for _, v := range []api.Value{null, num(0), num(1), num(-1), num(api.MaxNumber), num(-api.MaxNumber)} {
		wantPut(t, s, api.OK, 1, []int{0}, v, null)
		wantThing(t, s, 1, []int{0}, v, null)
	}
	for _, v := range []api.Value{null, str(""), str(`"`), str("null"), str("\x00\n"), str("éé"), str(times(api.MaxString, "\xff"))} {
		wantPut(t, s, api.OK, 1, []int{0}, null, v)
		wantThing(t, s, 1, []int{0}, null, v)
	}
}

func TestP6NoValue(t *testing.T) {
	neither := []api.Value{
		{N: 1}, {N: -1}, {S: "x"}, {S: "\x00"}, {Kind: 3}, {Kind: -1}, {Kind: math.MaxInt}, {Kind: math.MinInt},
		{Kind: 3, N: 1}, {Kind: 3, S: "x"},
	}
	noNumber := append([]api.Value{
		num(api.MaxNumber + 1), num(-api.MaxNumber - 1), num(math.MaxInt), num(math.MinInt),
		{Kind: api.Number, S: "x"}, {Kind: api.Number, N: 1, S: "1"}, str(""), str("5"),
	}, neither...)
	noString := append([]api.Value{
		str(times(api.MaxString+1, "x")), str(strings.Repeat("x", 10000)),
		{Kind: api.String, N: 1}, {Kind: api.String, N: -1, S: "x"}, num(0), num(5),
	}, neither...)
	for _, id := range []int{4, 5} {
		for _, v := range noNumber {
			wantRefused(t, api.ErrKind, id, []int{0, 0}, v, str("z"))
		}
		for _, v := range noString {
			wantRefused(t, api.ErrKind, id, []int{0, 0}, num(9), v)
		}
	}
}

func TestP6ArgComesAheadOfKind(t *testing.T) {
	wantRefused(t, api.ErrArg, -1, []int{0, 0}, str("5"), num(5))
	wantRefused(t, api.ErrArg, api.MaxID+1, []int{0, 0}, api.Value{N: 1}, str(""))
	wantRefused(t, api.ErrArg, 5, []int{0}, str("5"), num(5))
	wantRefused(t, api.ErrArg, 5, []int{0, api.MaxCoord + 1}, num(api.MaxNumber+1), str(""))
	wantRefused(t, api.ErrArg, 5, []int{0, 0}, str("5"))
	wantRefused(t, api.ErrArg, 5, []int{0, 0}, str("5"), num(5), api.Value{Kind: 3})
}

// The same calls on a store and on a plain list of things.
func TestP6AgainstAList(t *testing.T) {
	type thing struct {
		spot   []int
		values []api.Value
	}
	numbers := []int{0, 1, 62, 63, 64, 65, 4094, 4095}
	for seed := range 20 {
		d := dice(seed)
		s := newStore(t, 1, numberField("n"), stringField("s"))
		list := make(map[int]thing)
		for range 2000 {
			id := numbers[d.below(len(numbers))]
			was, there := list[id]
			switch {
			case d.below(3) > 0:
				now := thing{[]int{d.below(5) - 2}, []api.Value{
					[]api.Value{null, num(0), num(1), num(-1)}[d.below(4)],
					[]api.Value{null, str(""), str("0"), str("1")}[d.below(4)],
				}}
				wantPut(t, s, api.OK, id, now.spot, now.values...)
				list[id] = now
			case there:
				wantThing(t, s, id, was.spot, was.values...)
				wantDrop(t, s, id)
				delete(list, id)
			default:
				wantNone(t, s, id)
			}
		}
		for _, id := range numbers {
			if was, there := list[id]; there {
				wantThing(t, s, id, was.spot, was.values...)
			} else {
				wantNone(t, s, id)
			}
		}
	}
}
