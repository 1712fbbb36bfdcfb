package rummage

import (
	"cmp"
	"slices"
	"strings"
	"testing"

	"rummage/api"
)

// The tests here hold Select and Nearest against lists of things and
// conditions that are made together with their texts, and so never read.

// condition: its tokens, how closely its joint binds (as strength tells), and
// what it says of a thing: 1 for yes, -1 for no, 0 for unknown.
type condition struct {
	tokens []string
	binds  int
	says   func(values []api.Value) int
}

func bracketed(c condition) condition {
	return condition{slices.Concat([]string{"("}, c.tokens, []string{")"}), 4, c.says}
}

// under puts brackets about a condition that binds too loosely for a part of
// a joint, and now and then about one that does not.
func (d *dice) under(joint string, c condition) condition {
	if c.binds < strength(joint) || d.below(6) == 0 {
		return bracketed(c)
	}
	return c
}

func negated(c condition) condition {
	return condition{append([]string{"not"}, c.tokens...), 3, func(values []api.Value) int { return -c.says(values) }}
}

func joined(joint string, a, b condition) condition {
	tokens := slices.Concat(a.tokens, []string{joint}, b.tokens)
	return condition{tokens, strength(joint), func(values []api.Value) int {
		if joint == "and" {
			return min(a.says(values), b.says(values))
		}
		return max(a.says(values), b.says(values))
	}}
}

// fourFields: what the conditions are about.
func fourFields() []api.Field {
	return []api.Field{numberField("n"), stringField("s"), numberField("m"), stringField("w")}
}

func numberTexts() []string { return []string{"0", "1", "-1", "-07", "-0", "001", "2"} }

func stringTexts() []string { return []string{`""`, `"a"`, `"ab"`, `"b"`, `"or"`, `"("`, `"ba"`} }

// meant gives the value that one of the texts above stands for.
func meant(text string) api.Value {
	if text[0] == '"' {
		return str(strings.Trim(text, `"`))
	}
	return num(map[string]int{"0": 0, "1": 1, "-1": -1, "-07": -7, "-0": 0, "001": 1, "2": 2}[text])
}

func (d *dice) value(kind int) api.Value {
	switch {
	case d.below(4) == 0:
		return null
	case kind == api.Number:
		return meant(numberTexts()[d.below(7)])
	}
	return meant(stringTexts()[d.below(7)])
}

func (d *dice) values() []api.Value {
	var list []api.Value
	for _, field := range fourFields() {
		list = append(list, d.value(field.Kind))
	}
	return list
}

// known makes a test's answer of what it says of values that are not Null.
func known(field int, says func(api.Value) bool) func([]api.Value) int {
	return func(values []api.Value) int {
		switch {
		case values[field] == null:
			return 0
		case says(values[field]):
			return 1
		}
		return -1
	}
}

func (d *dice) simple() condition {
	field := d.below(4)
	name, texts := fourFields()[field].Name, numberTexts()
	if field%2 == 1 {
		texts = stringTexts()
	}
	text := texts[d.below(7)]
	switch d.below(6) {
	case 0:
		return condition{[]string{name, "is", "null"}, 4, func(values []api.Value) int {
			if values[field] == null {
				return 1
			}
			return -1
		}}
	case 1:
		other := texts[d.below(7)]
		return condition{[]string{name, "in", "(", text, ",", other, ")"}, 4, known(field, func(v api.Value) bool {
			return v == meant(text) || v == meant(other)
		})}
	case 2:
		if field%2 == 1 {
			return condition{[]string{name, "like", text}, 4, known(field, func(v api.Value) bool {
				return strings.Index(v.S, meant(text).S) == 0
			})}
		}
	}
	sign := signs()[d.below(6)]
	return condition{[]string{name, sign, text}, 4, known(field, func(v api.Value) bool {
		return goSays(sign, v.N < meant(text).N || v.S < meant(text).S, v == meant(text))
	})}
}

func (d *dice) condition(size int) condition {
	if size == 0 {
		return d.simple()
	}
	switch d.below(5) {
	case 0:
		return negated(d.under("not", d.condition(size-1)))
	case 1:
		return d.condition(size - 1)
	case 2:
		return joined("or", d.under("or", d.condition(size-1)), d.under("or", d.condition(size/2)))
	}
	return joined("and", d.under("and", d.condition(size-1)), d.under("and", d.condition(size/2)))
}

// model is a store that is nothing but lists.
type model struct {
	spots  map[int][]int
	values map[int][]api.Value
}

func (m model) selected(c condition) []int {
	var found []int
	for id := range api.MaxID + 1 {
		if values, ok := m.values[id]; ok && c.says(values) == 1 {
			found = append(found, id)
		}
	}
	return found
}

// nearest picks the next one again and again.
func (m model) nearest(c condition, spot []int, most int) []api.Hit {
	var all []api.Hit
	for _, id := range m.selected(c) {
		dx, dy := spot[0]-m.spots[id][0], spot[1]-m.spots[id][1]
		all = append(all, hit(id, dx*dx+dy*dy))
	}
	var found []api.Hit
	for len(all) > 0 && len(found) < most {
		best := slices.MinFunc(all, func(a, b api.Hit) int { return cmp.Compare(a.Far, b.Far) })
		found = append(found, best)
		all = slices.DeleteFunc(all, func(h api.Hit) bool { return h == best })
	}
	return found
}

// stir puts and drops things in a store and in its model.
func (d *dice) stir(t *testing.T, s *Store, m model) {
	t.Helper()
	numbers := []int{0, 1, 2, 3, 31, 32, 62, 63, 64, 65, 100, 127, 128, 1000, 2047, 2048, 4032, 4094, 4095}
	for range 1 + d.below(12) {
		id := numbers[d.below(len(numbers))]
		if _, there := m.values[id]; there && d.below(3) == 0 {
			wantDrop(t, s, id)
			delete(m.values, id)
			continue
		}
		m.spots[id], m.values[id] = []int{d.below(5) - 2, d.below(5) - 2}, d.values()
		wantPut(t, s, api.OK, id, m.spots[id], m.values[id]...)
	}
}

func (d *dice) maybe() bool { return d.below(2) == 0 }

func TestP7P8AgainstLists(t *testing.T) {
	told := 0
	for seed := range 40 {
		d := dice(seed)
		s, m := newStore(t, 2, fourFields()...), model{map[int][]int{}, map[int][]api.Value{}}
		for range 300 {
			d.stir(t, s, m)
			c := d.condition(d.below(6))
			text := lay(c.tokens, d.maybe).text
			if _, errno, _ := Plain(text); errno != api.OK {
				if errno == api.ErrText {
					t.Fatalf("%q is no filter", text)
				}
				continue
			}
			want := m.selected(c)
			told += len(want)
			wantSelect(t, s, text, want...)
			spot, most := []int{d.below(7) - 3, d.below(7) - 3}, d.below(8)
			wantNearest(t, s, text, spot, most, m.nearest(c, spot, most)...)
		}
	}
	if told < 10000 {
		t.Errorf("only %d things were told in all", told)
	}
}

// fieldFault tells the first error of a filter on the four fields, token by
// token: of each literal and each like, the name is the last one that stood
// ahead of it.
func fieldFault(r row) (api.Errno, int) {
	kind := api.Null
	for i, token := range r.tokens {
		own := api.Null
		switch first := token[0]; {
		case slices.Contains([]string{"and", "or", "not", "in", "is", "null"}, token):
		case token == "like" || first == '"':
			own = api.String
		case first == '-' || first >= '0' && first <= '9':
			own = api.Number
		case first >= 'a' && first <= 'z':
			kind = map[string]int{"n": api.Number, "s": api.String, "m": api.Number, "w": api.String}[token]
			if kind == api.Null {
				return api.ErrName, r.places[i]
			}
		}
		if own != api.Null && own != kind {
			return api.ErrKind, r.places[i]
		}
	}
	return api.OK, 0
}

// rename lays other names and literals into a row here and there; what was a
// filter stays one.
func (d *dice) rename(tokens []string) []string {
	out := slices.Clone(tokens)
	for i, token := range out {
		switch {
		case d.below(8) > 0:
		case slices.Contains([]string{"n", "s", "m", "w"}, token):
			out[i] = []string{"n", "s", "m", "w", "x", "nn", "nulls"}[d.below(7)]
		case slices.Contains(numberTexts(), token) || slices.Contains(stringTexts(), token) && out[i-1] != "like":
			out[i] = []string{"7", "-0", `""`, `"like"`}[d.below(4)]
		}
	}
	return out
}

func TestP7FaultsAgainstTokens(t *testing.T) {
	s := newStore(t, 2, fourFields()...)
	wantPut(t, s, api.OK, 1, []int{0, 0}, num(1), str("a"), null, null)
	count := map[api.Errno]int{}
	d := dice(5)
	for range 20000 {
		r := lay(d.rename(d.condition(d.below(6)).tokens), d.maybe)
		_, errno, at := Plain(r.text)
		if errno == api.OK {
			errno, at = fieldFault(r)
		}
		count[errno]++
		if errno != api.OK {
			wantNoFind(t, s, r.text, errno, at)
		} else if _, errno, at := s.Select(r.text); errno != api.OK || at != 0 {
			t.Errorf("Select(%q) = %d, %d, want no error", r.text, errno, at)
		}
	}
	if count[api.OK] < 1000 || count[api.ErrName] < 1000 || count[api.ErrKind] < 1000 || count[api.ErrText] > 0 {
		t.Errorf("of each error there were so many: %v", count)
	}
}
