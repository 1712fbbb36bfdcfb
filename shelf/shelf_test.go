package shelf

import (
	"maps"
	"testing"
	"unsafe"

	"rummage/api"
	"rummage/ids"
)

func num(n int) api.Value { return api.Value{Kind: api.Number, N: n} }

func str(s string) api.Value { return api.Value{Kind: api.String, S: s} }

func set(numbers ...int) ids.Set {
	var all ids.Set
	for _, id := range numbers {
		all = all.With(id)
	}
	return all
}

func wantHolders(t *testing.T, s *Shelf, want map[held]ids.Set) {
	t.Helper()
	if !maps.Equal(s.holders, want) {
		t.Errorf("%d values are held, want %d, or others than those, or by other things", len(s.holders), len(want))
	}
}

func TestWhichThingsHaveAValue(t *testing.T) {
	s := New()
	s.Put(0, Thing{[]int{0}, []api.Value{num(1), num(1)}})
	s.Put(64, Thing{[]int{0}, []api.Value{num(1), {}}})
	s.Put(api.MaxID, Thing{[]int{0}, []api.Value{{}, num(2)}})
	wantHolders(t, s, map[held]ids.Set{
		{0, num(1)}: set(0, 64), {0, api.Value{}}: set(api.MaxID),
		{1, num(1)}: set(0), {1, api.Value{}}: set(64), {1, num(2)}: set(api.MaxID),
	})
	s.Put(64, Thing{[]int{0}, []api.Value{num(1), num(1)}})
	s.Put(api.MaxID, Thing{[]int{0}, []api.Value{num(1), num(3)}})
	wantHolders(t, s, map[held]ids.Set{
		{0, num(1)}: set(0, 64, api.MaxID),
		{1, num(1)}: set(0, 64), {1, num(3)}: set(api.MaxID),
	})
	s.Drop(0)
	s.Drop(1)
	wantHolders(t, s, map[held]ids.Set{
		{0, num(1)}: set(64, api.MaxID),
		{1, num(1)}: set(64), {1, num(3)}: set(api.MaxID),
	})
	s.Drop(64)
	s.Drop(api.MaxID)
	wantHolders(t, s, nil)
}

func TestAValueIsKeptByWhatItSays(t *testing.T) {
	s := New()
	s.Put(1, Thing{[]int{0}, []api.Value{str("")}})
	s.Put(2, Thing{[]int{0}, []api.Value{{}}})
	s.Put(3, Thing{[]int{0}, []api.Value{str(string([]byte("xy")))}})
	s.Put(4, Thing{[]int{0}, []api.Value{str(string([]byte("wxyz"))[1:3])}})
	wantHolders(t, s, map[held]ids.Set{
		{0, str("")}: set(1), {0, api.Value{}}: set(2), {0, str("xy")}: set(3, 4),
	})
}

// A string that were kept as it is would hold on to the text it is a piece of.
func TestStringsAreCopied(t *testing.T) {
	text := string([]byte("a long text"))
	s := New()
	s.Put(1, Thing{[]int{0}, []api.Value{str(text[2:6])}})
	first, _ := s.Get(1)
	second, _ := s.Get(1)
	for _, pair := range [][2]string{
		{text[2:6], s.things[1].Values[0].S},
		{text[2:6], first.Values[0].S},
		{first.Values[0].S, second.Values[0].S},
	} {
		if pair[0] != "long" || pair[1] != "long" || unsafe.StringData(pair[0]) == unsafe.StringData(pair[1]) {
			t.Errorf("%q and %q are kept in one place, or are not the string", pair[0], pair[1])
		}
	}
	for key := range s.holders {
		if unsafe.StringData(key.value.S) == unsafe.StringData(text[2:6]) {
			t.Errorf("the key has the caller's string")
		}
	}
}

func TestAskingForThings(t *testing.T) {
	s := New()
	if s.All() != set() || s.Having(0, num(1)) != set() || s.Where(0, always) != set() {
		t.Errorf("an empty shelf has things")
	}
	s.Put(0, Thing{[]int{0}, []api.Value{num(1), str("b")}})
	s.Put(64, Thing{[]int{0}, []api.Value{num(2), {}}})
	s.Put(api.MaxID, Thing{[]int{0}, []api.Value{{}, str("")}})
	s.Put(9, Thing{[]int{0}, []api.Value{num(9), str("9")}})
	s.Put(9, Thing{[]int{0}, []api.Value{num(2), str("b")}})
	s.Put(10, Thing{[]int{0}, []api.Value{num(10), str("10")}})
	s.Drop(10)
	above := func(v api.Value) bool { return v.N > 1 }
	for i, c := range []struct{ got, want ids.Set }{
		{s.All(), set(0, 9, 64, api.MaxID)},
		{s.Having(0, num(1)), set(0)},
		{s.Having(0, num(2)), set(9, 64)},
		{s.Having(0, num(9)), set()},
		{s.Having(0, num(10)), set()},
		{s.Having(0, api.Value{}), set(api.MaxID)},
		{s.Having(1, api.Value{}), set(64)},
		{s.Having(1, str("")), set(api.MaxID)},
		{s.Having(1, str("b")), set(0, 9)},
		{s.Having(1, num(2)), set()},
		{s.Where(0, always), set(0, 9, 64)},
		{s.Where(1, always), set(0, 9, api.MaxID)},
		{s.Where(2, always), set()},
		{s.Where(0, above), set(9, 64)},
		{s.Where(1, above), set()},
	} {
		if c.got != c.want {
			t.Errorf("row %d: %v, want %v", i, c.got.Numbers(), c.want.Numbers())
		}
	}
}

func always(api.Value) bool { return true }

func TestFar(t *testing.T) {
	for _, c := range []struct {
		a, b []int
		want int
	}{
		{[]int{0}, []int{0}, 0},
		{[]int{-3}, []int{4}, 49},
		{[]int{3, 4}, []int{0, 1}, 18},
		{[]int{1, 2, 3}, []int{2, 0, 6}, 14},
		{[]int{1000, -1000, 1000, -1000}, []int{-1000, 1000, -1000, 1000}, 16000000},
	} {
		s := New()
		s.Put(5, Thing{c.a, nil})
		s.Put(6, Thing{c.b, nil})
		if there, back := s.Far(5, c.b), s.Far(6, c.a); there != c.want || back != c.want {
			t.Errorf("%v and %v are %d and %d far, want %d", c.a, c.b, there, back, c.want)
		}
	}
}
