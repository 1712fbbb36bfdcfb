package shelf

import (
	"maps"
	"testing"
	"unsafe"

	"rummage/api"
	"rummage/ids"
)

func num(n int) api.Value { return api.Value{Kind: api.Number, N: n} }

func str(s string) api.Value { return api.Value{Kind: api.String, S: s} }

func set(numbers ...int) ids.Set {
	var all ids.Set
	for _, id := range numbers {
		all = all.With(id)
	}
	return all
}

func wantHolders(t *testing.T, s *Shelf, want map[held]ids.Set) {
	t.Helper()
	if !maps.Equal(s.holders, want) {
		t.Errorf("%d values are held, want %d, or others than those, or by other things", len(s.holders), len(want))
	}
}

func TestWhichThingsHaveAValue(t *testing.T) {
	s := New()
	s.Put(0, Thing{[]int{0}, []api.Value{num(1), num(1)}})
	s.Put(64, Thing{[]int{0}, []api.Value{num(1), {}}})
	s.Put(api.MaxID, Thing{[]int{0}, []api.Value{{}, num(2)}})
	wantHolders(t, s, map[held]ids.Set{
		{0, num(1)}: set(0, 64), {0, api.Value{}}: set(api.MaxID),
		{1, num(1)}: set(0), {1, api.Value{}}: set(64), {1, num(2)}: set(api.MaxID),
	})
	s.Put(64, Thing{[]int{0}, []api.Value{num(1), num(1)}})
	s.Put(api.MaxID, Thing{[]int{0}, []api.Value{num(1), num(3)}})
	wantHolders(t, s, map[held]ids.Set{
		{0, num(1)}: set(0, 64, api.MaxID),
		{1, num(1)}: set(0, 64), {1, num(3)}: set(api.MaxID),
	})
	s.Drop(0)
	s.Drop(1)
	wantHolders(t, s, map[held]ids.Set{
		{0, num(1)}: set(64, api.MaxID),
		{1, num(1)}: set(64), {1, num(3)}: set(api.MaxID),
	})
	s.Drop(64)
	s.Drop(api.MaxID)
	wantHolders(t, s, nil)
}

func TestAValueIsKeptByWhatItSays(t *testing.T) {
	s := New()
	s.Put(1, Thing{[]int{0}, []api.Value{str("")}})
	s.Put(2, Thing{[]int{0}, []api.Value{{}}})
	s.Put(3, Thing{[]int{0}, []api.Value{str(string([]byte("xy")))}})
	s.Put(4, Thing{[]int{0}, []api.Value{str(string([]byte("wxyz"))[1:3])}})
	wantHolders(t, s, map[held]ids.Set{
		{0, str("")}: set(1), {0, api.Value{}}: set(2), {0, str("xy")}: set(3, 4),
	})
}

// A string that were kept as it is would hold on to the text it is a piece of.
func TestStringsAreCopied(t *testing.T) {
	text := string([]byte("a long text"))
	s := New()
	s.Put(1, Thing{[]int{0}, []api.Value{str(text[2:6])}})
	first, _ := s.Get(1)
	second, _ := s.Get(1)
	for _, pair := range [][2]string{
		{text[2:6], s.things[1].Values[0].S},
		{text[2:6], first.Values[0].S},
		{first.Values[0].S, second.Values[0].S},
	} {
		if pair[0] != "long" || pair[1] != "long" || unsafe.StringData(pair[0]) == unsafe.StringData(pair[1]) {
			t.Errorf("%q and %q are kept in one place, or are not the string", pair[0], pair[1])
		}
	}
	for key := range s.holders {
		if unsafe.StringData(key.value.S) == unsafe.StringData(text[2:6]) {
			t.Errorf("the key has the caller's string")
		}
	}
}
