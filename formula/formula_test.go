package formula

import (
	"math/rand"
	"reflect"
	"slices"
	"testing"

	"disjoint/api"
	"disjoint/binder"
	"disjoint/copies"
	"disjoint/evaluate"
	"disjoint/parser"
	"disjoint/schema"
	"disjoint/value"
)

// columns x0 and x1 are integers, x2, x3 and x4 texts; x1 and x4 are never NULL.
var table = api.Table{Name: "t", Columns: []api.Column{
	{Name: "a", Type: api.Integer, Low: -3, High: 3}, {Name: "b", Type: api.Integer, Low: -3, High: 3, NotNull: true},
	{Name: "s", Type: api.Text, Max: 3}, {Name: "t", Type: api.Text, Max: 3}, {Name: "u", Type: api.Text, Max: 3, NotNull: true},
}}

var variables = schema.Variables(table)

func bind(t *testing.T, s string) api.Expr {
	t.Helper()
	e, offset, err := parser.Expression(s)
	if err != api.OK {
		t.Fatalf("%q: %d at %d", s, err, offset)
	}
	b, _, err := binder.Check(table, e)
	if err != api.OK {
		t.Fatalf("%q: %d", s, err)
	}
	return b
}

type translation func(api.Expr, []api.Variable) (api.Formula, api.Errno)

var translations = []translation{WhenTrue, WhenFalse, WhenNotFalse}

func TestTranslations(t *testing.T) {
	for s, want := range map[string][3]string{
		"a < b":                          {"x0 - x1 + 1 <= 0", "-x0 + x1 <= 0", "(x0 IS NULL OR x1 IS NULL OR x0 - x1 + 1 <= 0)"},
		"a - a < 1":                      {"x0 IS NOT NULL", "FALSE", "TRUE"},
		"a - a > 1":                      {"FALSE", "x0 IS NOT NULL", "x0 IS NULL"},
		"a + b - a = 2":                  {"(x0 IS NOT NULL AND x1 - 2 = 0)", "(x0 IS NOT NULL AND x1 - 2 <> 0)", "(x0 IS NULL OR x1 IS NULL OR x1 - 2 = 0)"},
		"a = b":                          {"x0 - x1 = 0", "x0 - x1 <> 0", "(x0 IS NULL OR x1 IS NULL OR x0 - x1 = 0)"},
		"a <> 1":                         {"x0 - 1 <> 0", "x0 - 1 = 0", "(x0 IS NULL OR x0 - 1 <> 0)"},
		"a <= 1":                         {"x0 - 1 <= 0", "-x0 + 2 <= 0", "(x0 IS NULL OR x0 - 1 <= 0)"},
		"1 > a":                          {"x0 <= 0", "-x0 + 1 <= 0", "(x0 IS NULL OR x0 <= 0)"},
		"a >= 1":                         {"-x0 + 1 <= 0", "x0 <= 0", "(x0 IS NULL OR -x0 + 1 <= 0)"},
		"LENGTH(s) > b":                  {"x1 - length(x2) + 1 <= 0", "-x1 + length(x2) <= 0", "(x1 IS NULL OR x2 IS NULL OR x1 - length(x2) + 1 <= 0)"},
		"a % 2 = 1":                      {"x0 - 2*div(x0, 2) - 1 = 0", "x0 - 2*div(x0, 2) - 1 <> 0", "(x0 IS NULL OR x0 - 2*div(x0, 2) - 1 = 0)"},
		"1 < 2":                          {"TRUE", "FALSE", "TRUE"},
		"1 = 2":                          {"FALSE", "TRUE", "FALSE"},
		"'a' < 'b'":                      {"TRUE", "FALSE", "TRUE"},
		"'b' <= 'a'":                     {"FALSE", "TRUE", "FALSE"},
		"s = 'x'":                        {"x2 = 'x'", "x2 <> 'x'", "(x2 IS NULL OR x2 = 'x')"},
		"s <> 'x'":                       {"x2 <> 'x'", "x2 = 'x'", "(x2 IS NULL OR x2 <> 'x')"},
		"s < 'x'":                        {"x2 < 'x'", "x2 >= 'x'", "(x2 IS NULL OR x2 < 'x')"},
		"s <= 'x'":                       {"x2 <= 'x'", "x2 > 'x'", "(x2 IS NULL OR x2 <= 'x')"},
		"'x' < s":                        {"x2 > 'x'", "x2 <= 'x'", "(x2 IS NULL OR x2 > 'x')"},
		"'x' <= s":                       {"x2 >= 'x'", "x2 < 'x'", "(x2 IS NULL OR x2 >= 'x')"},
		"'x' > s":                        {"x2 < 'x'", "x2 >= 'x'", "(x2 IS NULL OR x2 < 'x')"},
		"'x' >= s":                       {"x2 <= 'x'", "x2 > 'x'", "(x2 IS NULL OR x2 <= 'x')"},
		"'x' = s":                        {"x2 = 'x'", "x2 <> 'x'", "(x2 IS NULL OR x2 = 'x')"},
		"t = s":                          {"x2 = x3", "x2 <> x3", "(x2 IS NULL OR x3 IS NULL OR x2 = x3)"},
		"s <> t":                         {"x2 <> x3", "x2 = x3", "(x2 IS NULL OR x3 IS NULL OR x2 <> x3)"},
		"s = s":                          {"x2 IS NOT NULL", "FALSE", "TRUE"},
		"s <> s":                         {"FALSE", "x2 IS NOT NULL", "x2 IS NULL"},
		"s LIKE 'a%'":                    {"x2 LIKE 'a%'", "x2 NOT LIKE 'a%'", "(x2 IS NULL OR x2 LIKE 'a%')"},
		"'ab' LIKE 'a%'":                 {"TRUE", "FALSE", "TRUE"},
		"'ab' LIKE 'b%'":                 {"FALSE", "TRUE", "FALSE"},
		"NULL":                           {"FALSE", "FALSE", "TRUE"},
		"a = NULL":                       {"FALSE", "FALSE", "TRUE"},
		"NULL LIKE 'x'":                  {"FALSE", "FALSE", "TRUE"},
		"a + NULL < b":                   {"FALSE", "FALSE", "TRUE"},
		"NULL = NULL":                    {"FALSE", "FALSE", "TRUE"},
		"a IS NULL":                      {"x0 IS NULL", "x0 IS NOT NULL", "x0 IS NULL"},
		"a + b + a IS NULL":              {"(x0 IS NULL OR x1 IS NULL)", "(x0 IS NOT NULL AND x1 IS NOT NULL)", "(x0 IS NULL OR x1 IS NULL)"},
		"LENGTH(s) IS NULL":              {"x2 IS NULL", "x2 IS NOT NULL", "x2 IS NULL"},
		"5 IS NULL":                      {"FALSE", "TRUE", "FALSE"},
		"NULL IS NULL":                   {"TRUE", "FALSE", "TRUE"},
		"a + NULL IS NULL":               {"TRUE", "FALSE", "TRUE"},
		"a = 1 AND b = 1":                {"(x0 - 1 = 0 AND x1 - 1 = 0)", "(x0 - 1 <> 0 OR x1 - 1 <> 0)", "((x0 IS NULL OR x0 - 1 = 0) AND (x1 IS NULL OR x1 - 1 = 0))"},
		"a = 1 OR b = 1":                 {"(x0 - 1 = 0 OR x1 - 1 = 0)", "(x0 - 1 <> 0 AND x1 - 1 <> 0)", "((x0 IS NULL OR x0 - 1 = 0) OR (x1 IS NULL OR x1 - 1 = 0))"},
		"NOT (a = 1 OR NULL)":            {"(x0 - 1 <> 0 AND FALSE)", "(x0 - 1 = 0 OR FALSE)", "((x0 IS NULL OR x0 - 1 <> 0) AND TRUE)"},
		"NOT NOT a = 1":                  {"x0 - 1 = 0", "x0 - 1 <> 0", "(x0 IS NULL OR x0 - 1 = 0)"},
		"NOT a IS NULL":                  {"x0 IS NOT NULL", "x0 IS NULL", "x0 IS NOT NULL"},
		"1000 * (a - 2) = LENGTH('abc')": {"1000*x0 - 2003 = 0", "1000*x0 - 2003 <> 0", "(x0 IS NULL OR 1000*x0 - 2003 = 0)"},
	} {
		for i, f := range translations {
			got, err := f(bind(t, s), variables)
			if err != api.OK || Format(got) != want[i] || !Valid(got, variables) {
				t.Errorf("translation %d of %s: %s, %d, want %s", i, s, Format(got), err, want[i])
			}
		}
	}
}

func TestTooLarge(t *testing.T) {
	max := "1048576 * 1048576" // 2^40
	for s, want := range map[string][3]bool{
		"a < -" + "(" + max + ")":                {true, false, true},
		"a <= -(" + max + ")":                    {false, false, false},
		"a > " + max:                             {true, false, true},
		"a >= " + max:                            {false, false, false},
		"a - " + max + " >= 1":                   {true, true, true},
		"a = " + max:                             {false, false, false},
		"1048576 * a = -a":                       {true, true, true},
		"1048576 * a < b AND a < -(" + max + ")": {true, false, true},
		"NOT (a - b <= 5 OR a > " + max + ")":    {false, true, false},
		"a IS NULL OR 1048576 * a - 1 = -a":      {true, true, true},
		max + " > -1":                            {true, true, true},
		max + " > 0":                             {false, false, false},
		"a > 1048575 * 1048576 + 1048575 AND a < 2 - 1048576 * 1048575 * 1": {false, false, false},
	} {
		for i, f := range translations {
			got, err := f(bind(t, s), variables)
			if (err != api.OK) != want[i] || err != api.OK && (err != api.ErrTooLarge || !reflect.DeepEqual(got, api.Formula{})) {
				t.Errorf("translation %d of %s: %s, %d", i, s, Format(got), err)
			}
		}
	}
}

func randomCondition(r *rand.Rand, depth int) string {
	if depth == 0 {
		atoms := []string{"a < b", "a + 1 >= b * 2", "a % 2 = 1", "a / 2 <> b", "LENGTH(s) <= a", "a - a = 0", "s = 'a'", "s <> 'ab'", "t < 'b'", "'a' >= t", "u > 'a'", "s = t", "t <> s", "u = s", "s <> s", "t LIKE 'a%'", "u LIKE '_'", "'a' LIKE 'b'", "NULL", "a = NULL", "NULL LIKE 'a'", "a + b IS NULL", "s IS NULL", "u IS NULL", "NULL IS NULL", "3 IS NULL", "1 < 2", "'b' = 'c'", "LENGTH(u) + LENGTH(t) = 2", "(a + LENGTH(s)) % 3 > b / 2", "a = 1", "b <> 0"}
		return atoms[r.Intn(len(atoms))]
	}
	switch r.Intn(4) {
	case 0:
		return "NOT (" + randomCondition(r, depth-1) + ")"
	case 1:
		return "(" + randomCondition(r, depth-1) + ") OR (" + randomCondition(r, depth-1) + ")"
	}
	return "(" + randomCondition(r, depth-1) + ") AND (" + randomCondition(r, depth-1) + ")"
}

func randomRow(r *rand.Rand) api.Row {
	row := make(api.Row, len(variables))
	for i, x := range variables {
		switch {
		case x.Nullable && r.Intn(4) == 0:
		case x.Type == api.Integer:
			row[i] = value.Int(x.Low + r.Int63n(x.High-x.Low+1))
		default:
			row[i] = value.Text([]string{"", "a", "b", "ab", "aba"}[r.Intn(5)])
		}
	}
	return row
}

// The formulas hold exactly where the condition is True, False, and not False.
func TestMeaning(t *testing.T) {
	r := rand.New(rand.NewSource(21))
	for range 1500 {
		e := bind(t, randomCondition(r, r.Intn(4)))
		kept := copies.Expr(e)
		var formulas [3]api.Formula
		for i, f := range translations {
			g, err := f(e, variables)
			if err != api.OK || !Valid(g, variables) {
				t.Fatalf("%v: %d", e, err)
			}
			formulas[i] = g
		}
		if !reflect.DeepEqual(e, kept) {
			t.Fatal("the condition is changed")
		}
		to := r.Perm(len(variables))
		for range 20 {
			row := randomRow(r)
			v := evaluate.Condition(e, row)
			for i, want := range []bool{v == api.True, v == api.False, v != api.False} {
				if Holds(formulas[i], row) != want {
					t.Fatalf("translation %d of %v in %s: %s", i, e, value.FormatRow(row), Format(formulas[i]))
				}
				checkRenamed(t, formulas[i], to, row, want)
			}
		}
	}
}

func checkRenamed(t *testing.T, f api.Formula, to []int, row api.Row, want bool) {
	g := Rename(f, to)
	moved := make(api.Row, len(row))
	domains := make([]api.Variable, len(row))
	for i, v := range row {
		moved[to[i]] = v
		domains[to[i]] = variables[i]
	}
	if !Valid(g, domains) || Holds(g, moved) != want || Size(g) != Size(f) {
		t.Fatalf("%s becomes %s", Format(f), Format(g))
	}
	var numbers []int
	for _, v := range Variables(f) {
		numbers = append(numbers, to[v])
	}
	slices.Sort(numbers)
	if !slices.Equal(numbers, Variables(g)) {
		t.Fatalf("the variables of %s are %v", Format(g), Variables(g))
	}
}

func atomOf(kind, v, other int) api.Formula {
	return atom(api.Atom{Kind: kind, Var: v, Other: other})
}

func termAtom(kind int, c int64, parts ...api.Part) api.Formula {
	return atom(api.Atom{Kind: kind, Term: api.Term{Const: c, Parts: parts}})
}

func part(coef int64, v int) api.Part { return api.Part{Coef: coef, Var: v} }

func textAtom(v, kind int, negated bool, s string) api.Formula {
	return atom(api.Atom{Kind: api.AtomText, Var: v, Test: api.Test{Kind: kind, Negated: negated, Text: s}})
}

func TestRename(t *testing.T) {
	div := api.Part{Coef: 2, Kind: api.PartDiv, By: 3, Of: []api.Term{{Const: 1, Parts: []api.Part{part(1, 0), part(-1, 1)}}}}
	f := api.Formula{Args: []api.Formula{termAtom(api.AtomZero, 4, part(5, 0), part(6, 1), div), atomOf(api.AtomSame, 2, 3), textAtom(2, api.TestLike, false, "x"), {Kind: api.FormulaOr, Args: []api.Formula{atomOf(api.AtomNull, 1, 0)}}}}
	kept := copies.Formula(f)
	g := Rename(f, []int{9, 4, 7, 5})
	if want := "(6*x4 + 5*x9 + 2*div(-x4 + x9 + 1, 3) + 4 = 0 AND x5 = x7 AND x7 LIKE 'x' AND (x4 IS NULL))"; Format(g) != want {
		t.Errorf("renamed: %s", Format(g))
	}
	if !slices.Equal(Variables(g), []int{4, 5, 7, 9}) || Size(g) != 4 {
		t.Errorf("variables %v, size %d", Variables(g), Size(g))
	}
	g.Args[0].Atom.Term.Parts[2].Of[0].Parts[0].Coef = 77
	if !reflect.DeepEqual(f, kept) {
		t.Error("the argument is changed, or shares memory with the result")
	}
}

func TestHolds(t *testing.T) {
	row := api.Row{value.Int(3), {}, value.Text("abc"), value.Text("abd")}
	for i, c := range []struct {
		f    api.Formula
		want bool
	}{
		{constant(true), true}, {constant(false), false}, {api.Formula{Args: []api.Formula{constant(true), constant(false)}}, false}, {api.Formula{Kind: api.FormulaOr, Args: []api.Formula{constant(false), constant(true)}}, true},
		{atomOf(api.AtomNull, 1, 0), true}, {atomOf(api.AtomNull, 0, 0), false}, {atomOf(api.AtomNull, 9, 0), true}, {atomOf(api.AtomNotNull, 1, 0), false}, {atomOf(api.AtomNotNull, 9, 0), false}, {atomOf(api.AtomNotNull, 2, 0), true},
		{termAtom(api.AtomAtMost, -3, part(1, 0)), true}, {termAtom(api.AtomAtMost, -2, part(1, 0)), false}, {termAtom(api.AtomAtMost, -4, part(1, 0)), true}, {termAtom(api.AtomZero, -3, part(1, 0)), true}, {termAtom(api.AtomZero, -4, part(1, 0)), false}, {termAtom(api.AtomNonzero, -3, part(1, 0)), false}, {termAtom(api.AtomNonzero, -4, part(1, 0)), true},
		{termAtom(api.AtomAtMost, -9, part(1, 1)), false}, {termAtom(api.AtomNonzero, -9, part(1, 1)), false}, {termAtom(api.AtomZero, 0, part(1, 9)), false}, {termAtom(api.AtomAtMost, -9, part(1, 2)), false},
		{textAtom(2, api.TestEqual, false, "abc"), true}, {textAtom(2, api.TestEqual, true, "abc"), false}, {textAtom(2, api.TestEqual, true, "ab"), true}, {textAtom(2, api.TestLike, false, "_b%"), true}, {textAtom(2, api.TestLike, true, "_b%"), false}, {textAtom(2, api.TestLess, false, "abc"), false}, {textAtom(2, api.TestLess, false, "b"), true}, {textAtom(2, api.TestLess, true, "abc"), true}, {textAtom(2, api.TestAtMost, false, "abc"), true}, {textAtom(2, api.TestAtMost, false, "ab"), false}, {textAtom(2, api.TestAtMost, true, "ab"), true},
		{textAtom(1, api.TestEqual, true, "abc"), false}, {textAtom(0, api.TestEqual, true, "abc"), false}, {textAtom(9, api.TestLess, true, ""), false},
		{atomOf(api.AtomSame, 2, 3), false}, {atomOf(api.AtomDifferent, 2, 3), true}, {atomOf(api.AtomSame, 1, 2), false}, {atomOf(api.AtomDifferent, 1, 2), false}, {atomOf(api.AtomDifferent, 0, 2), false}, {atomOf(api.AtomDifferent, 2, 9), false}, {atomOf(api.AtomSame, 0, 1), false},
	} {
		if Holds(c.f, row) != c.want {
			t.Errorf("case %d: %s", i, Format(c.f))
		}
	}
	if !Holds(atomOf(api.AtomSame, 0, 1), api.Row{value.Text("x"), value.Text("x")}) || Holds(atomOf(api.AtomDifferent, 0, 1), api.Row{value.Text("x"), value.Text("x")}) {
		t.Error("equal texts")
	}
}

func TestValid(t *testing.T) {
	and := func(l ...api.Formula) api.Formula { return api.Formula{Args: l} }
	change := func(f api.Formula, change func(*api.Formula)) api.Formula {
		change(&f)
		return f
	}
	good := []api.Formula{and(), constant(false), atomOf(api.AtomNull, 4, 0), atomOf(api.AtomNotNull, 0, 0), termAtom(api.AtomAtMost, 5), termAtom(api.AtomZero, 5, part(1, 0), part(2, 1), api.Part{Coef: 1, Kind: api.PartLength, Var: 3}), textAtom(2, api.TestAtMost, true, "sixteen letters!"), textAtom(4, api.TestEqual, false, ""), atomOf(api.AtomSame, 2, 3), atomOf(api.AtomDifferent, 3, 4)}
	for i, f := range append(good, and(good...)) {
		if !Valid(f, variables) {
			t.Errorf("formula %d is not valid: %s", i, Format(f))
		}
	}
	div := func(v, kind int) api.Formula {
		return termAtom(api.AtomZero, 0, api.Part{Coef: 1, Kind: api.PartDiv, By: 2, Of: []api.Term{{Parts: []api.Part{{Coef: 1, Kind: kind, Var: v}}}}})
	}
	if !Valid(div(1, api.PartColumn), variables) || !Valid(div(2, api.PartLength), variables) {
		t.Error("a quotient is not valid")
	}
	bad := []api.Formula{
		{Kind: 3}, {Kind: -1}, atomOf(8, 0, 0), atomOf(-1, 0, 0), atomOf(api.AtomNull, 5, 0), atomOf(api.AtomNull, -1, 0), atomOf(api.AtomNotNull, 5, 0), atomOf(api.AtomNull, 0, 1),
		termAtom(api.AtomZero, 0, part(1, 2)), termAtom(api.AtomZero, 0, part(1, 5)), termAtom(api.AtomZero, 0, part(0, 0)), termAtom(api.AtomZero, 0, part(1, 1), part(1, 0)), termAtom(api.AtomNonzero, 0, api.Part{Coef: 1, Kind: api.PartLength, Var: 0}), termAtom(api.AtomAtMost, 1<<40+1, part(1, 0)), div(2, api.PartColumn), div(1, api.PartLength),
		textAtom(0, api.TestEqual, false, ""), textAtom(5, api.TestEqual, false, ""), textAtom(-1, api.TestEqual, false, ""), textAtom(2, 4, false, ""), textAtom(2, -1, false, ""), textAtom(2, api.TestEqual, false, "seventeen letters"), textAtom(2, api.TestEqual, false, "\n"),
		atomOf(api.AtomSame, 3, 2), atomOf(api.AtomSame, 2, 2), atomOf(api.AtomSame, 0, 2), atomOf(api.AtomSame, 2, 5), atomOf(api.AtomDifferent, 1, 2), atomOf(api.AtomDifferent, 4, 3), atomOf(api.AtomDifferent, -1, 3),
		change(and(), func(f *api.Formula) { f.Atom.Var = 1 }), change(and(), func(f *api.Formula) { f.Atom.Test.Text = "a" }), change(constant(false), func(f *api.Formula) { f.Atom.Term.Const = 1 }), change(and(), func(f *api.Formula) { f.Atom.Kind = 1 }), change(and(), func(f *api.Formula) { f.Atom.Other = 1 }), change(and(), func(f *api.Formula) { f.Atom.Term.Parts = []api.Part{{}} }),
		change(good[2], func(f *api.Formula) { f.Args = []api.Formula{and()} }), change(good[2], func(f *api.Formula) { f.Atom.Term.Const = 1 }), change(good[2], func(f *api.Formula) { f.Atom.Test.Negated = true }),
		change(good[4], func(f *api.Formula) { f.Atom.Var = 1 }), change(good[4], func(f *api.Formula) { f.Atom.Other = 1 }), change(good[4], func(f *api.Formula) { f.Atom.Test.Kind = 1 }),
		change(good[6], func(f *api.Formula) { f.Atom.Other = 3 }), change(good[6], func(f *api.Formula) { f.Atom.Term.Const = 3 }), change(good[6], func(f *api.Formula) { f.Atom.Test.Var = 2 }),
		change(good[8], func(f *api.Formula) { f.Atom.Term.Const = 3 }), change(good[8], func(f *api.Formula) { f.Atom.Test.Text = "a" }),
	}
	for i, f := range bad {
		if Valid(f, variables) || Valid(and(f), variables) || Valid(api.Formula{Kind: api.FormulaOr, Args: []api.Formula{and(), f}}, variables) {
			t.Errorf("formula %d is valid", i)
		}
	}
	if Valid(atomOf(api.AtomNull, 0, 0), nil) || !Valid(and(), nil) {
		t.Error("without variables")
	}
}

func TestFormat(t *testing.T) {
	f := api.Formula{Args: []api.Formula{atomOf(api.AtomNotNull, 1, 0), {Kind: api.FormulaOr}, {Kind: api.FormulaOr, Args: []api.Formula{textAtom(2, api.TestEqual, true, "it's"), and1()}}}}
	if want := "(x1 IS NOT NULL AND FALSE AND (x2 <> 'it''s' OR (TRUE)))"; Format(f) != want {
		t.Errorf("Format = %s", Format(f))
	}
}

func and1() api.Formula { return api.Formula{Args: []api.Formula{{}}} }
