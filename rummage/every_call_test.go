package rummage

import (
	"strings"
	"testing"

	"rummage/api"
)

// checkAnswer holds what P1 and P3 say of every answer of Plain.
func checkAnswer(t *testing.T, filter string) {
	t.Helper()
	plain, errno, at := Plain(filter)
	switch errno {
	case api.OK:
		if plain == "" || at != 0 {
			t.Fatalf("Plain(%q) = %q, OK, %d", filter, plain, at)
		}
	case api.ErrText, api.ErrDeep:
		if plain != "" || at < 0 || at > len(filter) {
			t.Fatalf("Plain(%q) = %q, %d, %d", filter, plain, errno, at)
		}
	default:
		t.Fatalf("Plain(%q) = %q, %d, %d: no error of a text of this length", filter, plain, errno, at)
	}
}

func TestP1AnyBytes(t *testing.T) {
	for i := range 256 {
		checkAnswer(t, string([]byte{byte(i)}))
		for j := range 256 {
			checkAnswer(t, string([]byte{byte(i), byte(j)}))
		}
	}
}

func TestP1MarredFilters(t *testing.T) {
	good := `not(a in(1,"x")or b<=-07)and c like"y"or d is null`
	for at := range len(good) {
		checkAnswer(t, good[:at])
		checkAnswer(t, good[at:])
		for b := range 256 {
			checkAnswer(t, good[:at]+string([]byte{byte(b)})+good[at:])
			checkAnswer(t, good[:at]+string([]byte{byte(b)})+good[at+1:])
		}
	}
}

func TestP1LongTextsEnd(t *testing.T) {
	for _, piece := range []string{"(", "not ", " ", `"`, "9", "a", "\xff", "a=1or "} {
		wantFault(t, strings.Repeat(piece, 5000000), api.ErrLong, 0)
		checkAnswer(t, strings.Repeat(piece, api.MaxFilter/len(piece)))
	}
}

func TestP2NothingIsKept(t *testing.T) {
	wantFault(t, "((((((not a = 1", api.ErrDeep, 6)
	wantFault(t, `((((((a = "`, api.ErrText, 10)
	wantForm(t, "((((((a=1))))))", "a = 1")
	bytes := []byte(`a="x"`)
	plain, _, _ := Plain(string(bytes))
	bytes[3] = 'y'
	if plain != `a = "x"` {
		t.Errorf("the answer has become %q", plain)
	}
}

// checkFinding holds what P1 and P7 say of every answer of the calls that
// find: Plain's error and place go ahead, and with an error there is no list.
func checkFinding(t *testing.T, s *Store, filter string) {
	t.Helper()
	_, plainErrno, plainAt := Plain(filter)
	list, errno, at := s.Select(filter)
	hits, hitsErrno, hitsAt := s.Nearest(filter, []int{0, 0}, 9)
	if errno != hitsErrno || at != hitsAt || len(list) != len(hits) {
		t.Fatalf("Select(%q) = %v, %d, %d, but Nearest %v, %d, %d", filter, list, errno, at, hits, hitsErrno, hitsAt)
	}
	if plainErrno != api.OK && (errno != plainErrno || at != plainAt) {
		t.Fatalf("Select(%q) = %d, %d, want Plain's %d, %d", filter, errno, at, plainErrno, plainAt)
	}
	switch {
	case errno == api.OK && at == 0:
	case errno != api.OK && list == nil && hits == nil && at >= 0 && at <= len(filter):
	default:
		t.Fatalf("Select(%q) = %v, %d, %d", filter, list, errno, at)
	}
	if plainErrno == api.OK && errno != api.OK && errno != api.ErrName && errno != api.ErrKind {
		t.Fatalf("Select(%q) = %d, %d: no error of a filter", filter, errno, at)
	}
}

func TestP1FindingByMarredFilters(t *testing.T) {
	s := examples(t)
	good := `not(n in(1,-2)or n<=-07)and s like"y"or s is null`
	for at := range len(good) {
		checkFinding(t, s, good[:at])
		checkFinding(t, s, good[at:])
		for b := range 256 {
			checkFinding(t, s, good[:at]+string([]byte{byte(b)})+good[at:])
			checkFinding(t, s, good[:at]+string([]byte{byte(b)})+good[at+1:])
		}
	}
	for i := range 256 {
		for j := range 256 {
			checkFinding(t, s, string([]byte{byte(i), byte(j)}))
			checkFinding(t, s, `s="`+string([]byte{byte(i), byte(j)})+`"`)
		}
	}
	for _, piece := range []string{"(", "not ", " ", `"`, "9", "n", "\xff", "n=1or "} {
		checkFinding(t, s, strings.Repeat(piece, 100000))
		checkFinding(t, s, strings.Repeat(piece, api.MaxFilter/len(piece)))
	}
}
