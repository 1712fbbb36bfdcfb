package rummage

import (
	"strings"
	"testing"

	"rummage/api"
)

// checkAnswer holds what P1 and P3 say of every answer of Plain.
func checkAnswer(t *testing.T, filter string) {
	t.Helper()
	plain, errno, at := Plain(filter)
	switch errno {
	case api.OK:
		if plain == "" || at != 0 {
			t.Fatalf("Plain(%q) = %q, OK, %d", filter, plain, at)
		}
	case api.ErrText, api.ErrDeep:
		if plain != "" || at < 0 || at > len(filter) {
			t.Fatalf("Plain(%q) = %q, %d, %d", filter, plain, errno, at)
		}
	default:
		t.Fatalf("Plain(%q) = %q, %d, %d: no error of a text of this length", filter, plain, errno, at)
	}
}

func TestP1AnyBytes(t *testing.T) {
	for i := range 256 {
		checkAnswer(t, string([]byte{byte(i)}))
		for j := range 256 {
			checkAnswer(t, string([]byte{byte(i), byte(j)}))
		}
	}
}

func TestP1MarredFilters(t *testing.T) {
	good := `not(a in(1,"x")or b<=-07)and c like"y"or d is null`
	for at := range len(good) {
		checkAnswer(t, good[:at])
		checkAnswer(t, good[at:])
		for b := range 256 {
			checkAnswer(t, good[:at]+string([]byte{byte(b)})+good[at:])
			checkAnswer(t, good[:at]+string([]byte{byte(b)})+good[at+1:])
		}
	}
}

func TestP1LongTextsEnd(t *testing.T) {
	for _, piece := range []string{"(", "not ", " ", `"`, "9", "a", "\xff", "a=1or "} {
		wantFault(t, strings.Repeat(piece, 5000000), api.ErrLong, 0)
		checkAnswer(t, strings.Repeat(piece, api.MaxFilter/len(piece)))
	}
}

func TestP2NothingIsKept(t *testing.T) {
	wantFault(t, "((((((not a = 1", api.ErrDeep, 6)
	wantFault(t, `((((((a = "`, api.ErrText, 10)
	wantForm(t, "((((((a=1))))))", "a = 1")
	bytes := []byte(`a="x"`)
	plain, _, _ := Plain(string(bytes))
	bytes[3] = 'y'
	if plain != `a = "x"` {
		t.Errorf("the answer has become %q", plain)
	}
}
