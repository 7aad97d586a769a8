package value

import (
	"math"
	"strings"
	"testing"

	"disjoint/api"
)

var null = api.Value{}

// ascending are values in the total order, valid ones and others.
var ascending = []api.Value{
	{Kind: -1}, {Kind: -1, Text: "a"}, {Int: -1}, null, {Text: "x"}, {Int: 1},
	Int(math.MinInt64), Int(-5), Int(0), {Kind: api.Integer, Text: "a"}, Int(3), Int(math.MaxInt64),
	{Kind: api.Text, Int: -1, Text: "z"}, Text(""), Text(" "), Text("A"), Text("a"), Text("a "), Text("aa"), Text("ab"), Text("b"), Text("b\x00"), Text("~"), Text("\x7f"), Text("\xff"),
	{Kind: api.Text, Int: 1}, {Kind: api.Boolean}, {Kind: math.MaxInt},
}

var validOnes = []api.Value{null, Int(math.MinInt64), Int(-1), Int(0), Int(7), Int(math.MaxInt64), Text(""), Text("it's"), Text("'"), Text("''"), Text(" ~"), Text("sixteen letters!"), Text("NULL"), Text("12")}

var invalidOnes = []api.Value{{Int: 1}, {Text: "a"}, {Kind: api.Integer, Int: 1, Text: "a"}, {Kind: api.Text, Int: 1}, Text("seventeen letters"), Text("\x1f"), Text("\x7f"), Text("\n"), Text("é"), {Kind: api.Boolean}, {Kind: -1}, {Kind: 4}}

func sign(n int) int {
	switch {
	case n < 0:
		return -1
	case n > 0:
		return 1
	}
	return 0
}

func TestOrder(t *testing.T) {
	for i, a := range ascending {
		for j, b := range ascending {
			if Compare(a, b) != sign(i-j) {
				t.Errorf("Compare(%v, %v) = %d", a, b, Compare(a, b))
			}
			if CompareRows(api.Row{null, a}, api.Row{null, b}) != sign(i-j) || CompareRows(api.Row{a, Int(1)}, api.Row{b, Int(1)}) != sign(i-j) {
				t.Errorf("CompareRows with %v, %v", a, b)
			}
			if CompareRows(api.Row{a, Int(2)}, api.Row{b, Int(1), null}) != map[bool]int{true: 1, false: sign(i - j)}[i == j] {
				t.Errorf("the first difference does not decide: %v, %v", a, b)
			}
		}
		if CompareRows(api.Row{a}, api.Row{a, null}) != -1 || CompareRows(api.Row{a, {Kind: -1}}, api.Row{a}) != 1 {
			t.Error("a prefix does not precede the longer row")
		}
	}
	if CompareRows(nil, api.Row{}) != 0 || CompareRows(nil, api.Row{null}) != -1 {
		t.Error("rows without values")
	}
}

func TestComparisons(t *testing.T) {
	for i, a := range ascending {
		for j, b := range ascending {
			equal, less := api.False, api.False
			if i == j {
				equal = api.True
			}
			if i < j && a.Kind == b.Kind {
				less = api.True
			}
			if a.Kind == api.Null || b.Kind == api.Null {
				equal, less = api.Unknown, api.Unknown
			}
			if Equal(a, b) != equal || Less(a, b) != less {
				t.Errorf("%v, %v: Equal = %d, Less = %d", a, b, Equal(a, b), Less(a, b))
			}
		}
	}
}

func TestTrichotomy(t *testing.T) {
	for _, a := range validOnes {
		for _, b := range validOnes {
			if a.Kind != b.Kind || a.Kind == api.Null {
				continue
			}
			n := 0
			for _, v := range []api.Truth{Less(a, b), Equal(a, b), Less(b, a)} {
				if v == api.True {
					n++
				}
			}
			if n != 1 || (Less(a, b) == api.True) != (Compare(a, b) < 0) {
				t.Errorf("%v, %v: %d comparisons are true", a, b, n)
			}
		}
	}
}

func TestValid(t *testing.T) {
	for _, v := range validOnes {
		if !Valid(v) {
			t.Errorf("%v is not valid", v)
		}
	}
	for _, v := range invalidOnes {
		if Valid(v) {
			t.Errorf("%v is valid", v)
		}
		if Format(v) != "" || FormatRow(api.Row{Int(1), v}) != "" {
			t.Errorf("%v has a literal", v)
		}
	}
	for c := range 256 {
		if Valid(Text(string([]byte{byte(c)}))) != (c >= 0x20 && c <= 0x7e) {
			t.Errorf("the character %d", c)
		}
	}
	if Int(-3) != (api.Value{Kind: api.Integer, Int: -3}) || Text("a") != (api.Value{Kind: api.Text, Text: "a"}) {
		t.Error("Int or Text")
	}
}

func TestFits(t *testing.T) {
	ints := api.Variable{Type: api.Integer, Low: -2, High: 5}
	texts := api.Variable{Type: api.Text, Max: 3}
	nullable := func(x api.Variable) api.Variable {
		x.Nullable = true
		return x
	}
	for _, c := range []struct {
		v    api.Value
		x    api.Variable
		want bool
	}{
		{Int(-2), ints, true}, {Int(5), ints, true}, {Int(0), ints, true}, {Int(-3), ints, false}, {Int(6), ints, false},
		{Text("abc"), texts, true}, {Text(""), texts, true}, {Text("abcd"), texts, false}, {Text("\n"), texts, false},
		{null, ints, false}, {null, texts, false}, {null, nullable(ints), true}, {null, nullable(texts), true}, {null, api.Variable{Nullable: true}, true},
		{Int(0), texts, false}, {Text(""), ints, false}, {Int(0), nullable(texts), false}, {Text(""), nullable(ints), false},
		{Int(0), api.Variable{Type: api.Boolean, High: 5}, false}, {api.Value{Int: 1}, nullable(ints), false}, {api.Value{Kind: api.Integer, Text: "a"}, ints, false},
		{Text("seventeen letters"), api.Variable{Type: api.Text, Max: 99}, false}, {Int(0), api.Variable{Type: api.Integer, Low: 1, High: -1}, false},
		{api.Value{Kind: api.Boolean}, api.Variable{Type: api.Boolean, Nullable: true}, false},
	} {
		if Fits(c.v, c.x) != c.want {
			t.Errorf("Fits(%v, %v) = %v", c.v, c.x, !c.want)
		}
	}
}

func TestLiterals(t *testing.T) {
	for v, s := range map[api.Value]string{null: "NULL", Int(-12): "-12", Int(0): "0", Int(math.MinInt64): "-9223372036854775808", Text(""): "''", Text("it's"): "'it''s'", Text("''"): "''''''"} {
		if Format(v) != s {
			t.Errorf("Format(%v) = %q", v, Format(v))
		}
	}
	for _, v := range validOnes {
		if w, e := Parse(Format(v)); w != v || e != api.OK {
			t.Errorf("Parse(%q) = %v, %d", Format(v), w, e)
		}
	}
	for _, s := range []string{"", "null", "Null", "NULL ", "-0", "+1", "01", "-01", "1_0", "0x1", "9223372036854775808", "-", "1.0", "'", "'a", "a'", "'''", "'a'b'", "''a", "'a''", "\"a\"", "'seventeen letters'", "'\n'", "'" + strings.Repeat("''", 17) + "'", "1'1"} {
		if v, e := Parse(s); v != null || e != api.ErrSyntax {
			t.Errorf("Parse(%q) = %v, %d", s, v, e)
		}
	}
}

func TestFormatRow(t *testing.T) {
	for _, c := range []struct {
		r    api.Row
		want string
	}{{api.Row{Int(7), null}, "(7, NULL)"}, {nil, "()"}, {api.Row{Text("a, b")}, "('a, b')"}, {api.Row{Int(-1), Text("x"), null}, "(-1, 'x', NULL)"}, {api.Row{{Kind: 3}}, ""}} {
		if FormatRow(c.r) != c.want {
			t.Errorf("FormatRow(%v) = %q", c.r, FormatRow(c.r))
		}
	}
}
