package tribool

import (
	"math"
	"testing"

	"disjoint/api"
)

// inputs are the truth values and numbers that count as Unknown.
var inputs = []api.Truth{api.False, api.True, api.Unknown, 3, -1, math.MaxInt64, math.MinInt64}

// rank is the position in the order False, Unknown, True.
func rank(a api.Truth) int {
	switch a {
	case api.False:
		return 0
	case api.True:
		return 2
	}
	return 1
}

func ranked(n int) api.Truth {
	return []api.Truth{api.False, api.Unknown, api.True}[n]
}

func TestConnectives(t *testing.T) {
	for _, a := range inputs {
		if got, want := Not(a), ranked(2-rank(a)); got != want {
			t.Errorf("Not(%d) = %d, want %d", a, got, want)
		}
		for _, b := range inputs {
			if got, want := And(a, b), ranked(min(rank(a), rank(b))); got != want {
				t.Errorf("And(%d, %d) = %d, want %d", a, b, got, want)
			}
			if got, want := Or(a, b), ranked(max(rank(a), rank(b))); got != want {
				t.Errorf("Or(%d, %d) = %d, want %d", a, b, got, want)
			}
		}
	}
}

func TestLists(t *testing.T) {
	if All() != api.True || Any() != api.False {
		t.Error("empty lists")
	}
	for _, a := range inputs {
		if All(a) != ranked(rank(a)) || Any(a) != ranked(rank(a)) {
			t.Errorf("lists of %d alone", a)
		}
		for _, b := range inputs {
			for _, c := range inputs {
				least := min(rank(a), rank(b), rank(c))
				greatest := max(rank(a), rank(b), rank(c))
				if All(a, b, c) != ranked(least) || Any(a, b, c) != ranked(greatest) {
					t.Errorf("All or Any of %d, %d, %d", a, b, c)
				}
			}
		}
	}
}

func TestNames(t *testing.T) {
	for a, name := range map[api.Truth]string{api.False: "FALSE", api.True: "TRUE", api.Unknown: "UNKNOWN", -5: "UNKNOWN", 3: "UNKNOWN"} {
		if Format(a) != name {
			t.Errorf("Format(%d) = %q", a, Format(a))
		}
	}
	for _, a := range []api.Truth{api.False, api.True, api.Unknown} {
		if b, e := Parse(Format(a)); b != a || e != api.OK {
			t.Errorf("Parse(%q) = %d, %d", Format(a), b, e)
		}
	}
	for _, s := range []string{"", "true", "True", "TRUE ", " TRUE", "UNKNOWNS", "NULL", "0"} {
		if b, e := Parse(s); b != api.False || e != api.ErrSyntax {
			t.Errorf("Parse(%q) = %d, %d", s, b, e)
		}
	}
	if Of(true) != api.True || Of(false) != api.False {
		t.Error("Of")
	}
}

func TestLaws(t *testing.T) {
	for _, a := range inputs {
		for _, b := range inputs {
			if And(a, b) != And(b, a) || Or(a, b) != Or(b, a) {
				t.Errorf("not commutative: %d, %d", a, b)
			}
			if Not(And(a, b)) != Or(Not(a), Not(b)) || Not(Or(a, b)) != And(Not(a), Not(b)) {
				t.Errorf("De Morgan: %d, %d", a, b)
			}
			for _, c := range inputs {
				if And(And(a, b), c) != And(a, And(b, c)) || Or(Or(a, b), c) != Or(a, Or(b, c)) {
					t.Errorf("not associative: %d, %d, %d", a, b, c)
				}
			}
		}
	}
}

// Replacing Unknown by True or False does not change a result that is known.
func TestMonotone(t *testing.T) {
	for _, b := range inputs {
		for _, known := range []api.Truth{api.True, api.False} {
			if r := And(api.Unknown, b); r != api.Unknown && And(known, b) != r {
				t.Errorf("And(%d, %d)", known, b)
			}
			if r := Or(api.Unknown, b); r != api.Unknown && Or(known, b) != r {
				t.Errorf("Or(%d, %d)", known, b)
			}
		}
	}
}
