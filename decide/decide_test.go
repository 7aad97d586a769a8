package decide

import (
	"math/rand"
	"reflect"
	"slices"
	"testing"

	"disjoint/api"
	"disjoint/binder"
	"disjoint/copies"
	"disjoint/dnf"
	"disjoint/evaluate"
	"disjoint/formula"
	"disjoint/parser"
	"disjoint/refutation"
	"disjoint/schema"
	"disjoint/value"
)

// columns a, b and c are integers, s, t and u texts; b and t are never NULL.
var table = api.Table{Name: "t", Columns: []api.Column{
	{Name: "a", Type: api.Integer, Low: -4, High: 9}, {Name: "b", Type: api.Integer, Low: 0, High: 5, NotNull: true}, {Name: "c", Type: api.Integer, Low: api.MinInteger, High: api.MaxInteger},
	{Name: "s", Type: api.Text, Max: 3}, {Name: "t", Type: api.Text, Max: 2, NotNull: true}, {Name: "u", Type: api.Text, Max: 16},
}}

var variables = schema.Variables(table)

func translate(t *testing.T, s string) (api.Expr, api.Formula) {
	t.Helper()
	e, offset, err := parser.Expression(s)
	if err != api.OK {
		t.Fatalf("%q: %d at %d", s, err, offset)
	}
	b, _, err := binder.Check(table, e)
	if err != api.OK {
		t.Fatalf("%q: %d", s, err)
	}
	f, err := formula.WhenTrue(b, variables)
	if err != api.OK {
		t.Fatalf("%q: %d", s, err)
	}
	return b, f
}

// check decides a clause, and checks the row or the refutation.
func check(t *testing.T, l []api.Variable, c api.Clause) (api.Row, bool) {
	t.Helper()
	kept := copies.Clause(c)
	row, r, ok := Clause(l, c)
	if !reflect.DeepEqual(c, kept) {
		t.Fatal("the clause is changed")
	}
	if ok {
		if !Satisfies(l, c, row) || !reflect.DeepEqual(r, api.Refutation{}) {
			t.Fatalf("%s does not satisfy %s", value.FormatRow(row), dnf.Format(c, len(l)))
		}
		return row, true
	}
	if row != nil || !refutation.Check(l, c, r) {
		t.Fatalf("%s is not refuted by %s", dnf.Format(c, len(l)), refutation.Format(r))
	}
	return nil, false
}

// decision decides a condition.
func decision(t *testing.T, s string) (api.Row, bool) {
	t.Helper()
	e, f := translate(t, s)
	clauses, _ := dnf.Clauses(f, variables)
	found := false
	for _, c := range clauses {
		_, ok := check(t, variables, c)
		found = found || ok
	}
	row, ok, err := Formula(variables, f)
	if err != api.OK || ok != found || ok && (evaluate.Condition(e, row) != api.True || !belongs(variables, row)) || !ok && row != nil {
		t.Fatalf("%s: %s, %v, %d", s, value.FormatRow(row), ok, err)
	}
	return row, ok
}

func TestConditions(t *testing.T) {
	for s, want := range map[string]bool{
		"a % 3 = 2 AND a >= 6": true, "a % 3 = 2 AND a >= 6 AND a <> 8": false, "a + 1 = a": false, "2 * a + 2 * b = 1": false, "a = b * 3 - 7 AND a % 3 = 1": false, "a = b * 3 - 7 AND a % 3 = 2": true, "a > 9": false, "a >= 9": true, "b < 0": false, "b IS NULL": false, "a IS NULL AND a = 1": false, "a IS NULL OR a > 100": true,
		"c = 2147483647 AND c + 1 > a": true, "c > 2147483647": false, "c - a > 2147483648 + 3": false, "c - a > 2147483648 + 2": true, "c / 1000 = 2147483 AND c % 1000 = 648": false, "c / 1000 = 2147483 AND c % 1000 = 647": true, "c / 1000 = -2147484 AND c % 1000 = 352": true,
		"LENGTH(s) = 2 AND s LIKE 'a%'": true, "LENGTH(s) = 2 AND s LIKE 'a'": false, "LENGTH(s) = 2 AND s LIKE 'a%' AND s <= 'a'": false, "LENGTH(s) > 3": false, "LENGTH(t) = 2 AND t = 'x'": false, "LENGTH(u) = 16 AND u LIKE '%a______________'": true, "LENGTH(u) % 5 = 3 AND u LIKE '____' ": false, "LENGTH(u) % 5 = 3 AND u NOT LIKE '________' AND LENGTH(u) > 3 AND LENGTH(u) < 13": false,
		"s = t AND LENGTH(s) + LENGTH(t) = 3": false, "s = t AND LENGTH(s) + LENGTH(t) = 4": true, "s = t AND LENGTH(s) = 3": false, "s = u AND LENGTH(u) = LENGTH(s) + 1": false, "s <> t AND LENGTH(s) = 0 AND LENGTH(t) = 0": false, "s <> t AND LENGTH(s) = 0 AND LENGTH(t) < 2": true, "s = t AND t = u AND LENGTH(s) + LENGTH(t) + LENGTH(u) = 5": false, "s = t AND t = u AND LENGTH(s) + LENGTH(t) + LENGTH(u) = 6": true,
		"LENGTH(s) = a AND a * 2 = 5": false, "LENGTH(s) = a AND s LIKE '_%' AND a < 1": false, "LENGTH(u) = 7 * b + 2 AND u NOT LIKE '__' AND LENGTH(u) <> 9 AND LENGTH(u) <> 16": false, "LENGTH(u) = 7 * b + 2 AND u NOT LIKE '__' AND LENGTH(u) <> 9": true, "LENGTH(u) - LENGTH(s) = 14": true, "LENGTH(u) - LENGTH(s) = 14 AND s LIKE '_%' OR a = 3": true, "LENGTH(u) - LENGTH(s) - LENGTH(t) = 16": true, "LENGTH(u) - LENGTH(s) - LENGTH(t) = 16 AND t = 'x'": false, "LENGTH(s) * 2 = LENGTH(u) AND u LIKE '_____%' AND s LIKE '_'": false,
		"u LIKE 'x%' AND u < 'x'": false, "u > 'x' AND u < 'x '": false, "u > 'x' AND u <= 'x '": true, "s IS NULL AND t = s": false, "NULL": false, "1 = 1": true, "1 = 2": false, "a - a = 0": true, "u < ''": false, "u <= ''": true,
	} {
		if row, ok := decision(t, s); ok != want {
			t.Errorf("%s: %s, %v", s, value.FormatRow(row), ok)
		}
	}
	if row, _ := decision(t, "a % 3 = 2 AND a >= 6"); row[0] != value.Int(8) {
		t.Errorf("the row is %s", value.FormatRow(row))
	}
}

var atoms = []string{"a < b", "a + 1 >= b * 2", "a % 2 = 1", "a / 2 <> b", "LENGTH(s) <= a", "s = 'a'", "s <> 'ab'", "t < 'b'", "'a' >= t", "u > 'a'", "s = t", "t <> s", "u = s", "u <> t", "t LIKE 'a%'", "u LIKE '_'", "u NOT LIKE '%b%'", "s IS NULL", "a IS NOT NULL", "LENGTH(u) + LENGTH(t) = 5", "(a + LENGTH(s)) % 3 > b / 2", "LENGTH(s) = LENGTH(u)", "LENGTH(u) % 4 = 1", "LENGTH(t) > 0", "a = 1", "b <> 0", "c + 3 * a > 5 * b", "c = a * 7 - b", "c % 5 = a % 3", "LENGTH(u) * 3 = c", "s > 'b'", "u LIKE '__%a'", "s LIKE '%a%'"}

func TestRandom(t *testing.T) {
	r := rand.New(rand.NewSource(47))
	count := map[bool]int{}
	for range 1500 {
		s := ""
		for i := range 1 + r.Intn(8) {
			if i > 0 {
				s += " AND "
			}
			if r.Intn(3) == 0 {
				s += "NOT "
			}
			s += atoms[r.Intn(len(atoms))]
		}
		_, ok := decision(t, s)
		count[ok]++
	}
	if count[true] < 200 || count[false] < 200 {
		t.Errorf("counts: %v", count)
	}
}

// In small domains all rows can be tried.
func TestSmallDomains(t *testing.T) {
	r := rand.New(rand.NewSource(48))
	small := slices.Clone(variables)
	small[0].Low, small[0].High = -1, 2
	small[1].High = 1
	small[2].Low, small[2].High = 0, 3
	small[3].Max, small[4].Max, small[5].Max = 0, 0, 0
	var rows []api.Row
	for a := int64(-2); a <= 2; a++ {
		for b := range int64(2) {
			for c := range int64(5) {
				for nulls := range 4 {
					row := api.Row{value.Int(a), value.Int(b), value.Int(c - 1), value.Text(""), value.Text(""), value.Text("")}
					if a == -2 {
						row[0] = api.Value{}
					}
					if c == 0 {
						row[2] = api.Value{}
					}
					if nulls%2 == 1 {
						row[3] = api.Value{}
					}
					if nulls > 1 {
						row[5] = api.Value{}
					}
					rows = append(rows, row)
				}
			}
		}
	}
	for range 800 {
		e, f := translate(t, atoms[r.Intn(len(atoms))]+" AND ("+atoms[r.Intn(len(atoms))]+" OR "+atoms[r.Intn(len(atoms))]+") AND "+atoms[r.Intn(len(atoms))])
		want := slices.ContainsFunc(rows, func(row api.Row) bool { return evaluate.Condition(e, row) == api.True })
		row, ok, err := Formula(small, f)
		if err != api.OK || ok != want || ok && (!belongs(small, row) || evaluate.Condition(e, row) != api.True) {
			t.Fatalf("%s: %s, %v, want %v", formula.Format(f), value.FormatRow(row), ok, want)
		}
		// A clause that cannot be satisfied cannot be satisfied in smaller domains.
		clauses, _ := dnf.Clauses(f, variables)
		for _, c := range clauses {
			_, large := check(t, variables, c)
			if _, ok := check(t, small, c); ok && !large {
				t.Fatalf("%s is only satisfied in smaller domains", dnf.Format(c, len(small)))
			}
		}
	}
}

// The conjunction of two clauses has different auxiliary variables for the same lengths.
func TestJoinedClauses(t *testing.T) {
	r := rand.New(rand.NewSource(49))
	lengths := []string{"LENGTH(s) = 2", "LENGTH(s) = 3", "LENGTH(s) = LENGTH(u)", "LENGTH(u) = a + 1 AND a > 1", "s = t AND LENGTH(t) > 0", "LENGTH(u) % 3 = 2", "LENGTH(u) % 4 = 1 AND u > 'a'", "u = s AND LENGTH(u) + LENGTH(s) = 4", "LENGTH(u) + LENGTH(s) % 2 = 7", "u LIKE '___%' AND LENGTH(u) <= 4"}
	count := map[bool]int{}
	for range 400 {
		x, y := lengths[r.Intn(len(lengths))], lengths[r.Intn(len(lengths))]
		_, f := translate(t, x)
		_, g := translate(t, y)
		a, _ := dnf.Clauses(f, variables)
		b, _ := dnf.Clauses(g, variables)
		_, ok := check(t, variables, dnf.Join(a[0], b[0], len(variables)))
		if _, want := decision(t, x+" AND "+y); ok != want {
			t.Fatalf("%s AND %s: %v", x, y, ok)
		}
		count[ok]++
	}
	if count[true] < 50 || count[false] < 50 {
		t.Errorf("counts: %v", count)
	}
}

func TestNull(t *testing.T) {
	for i, c := range []struct {
		c    api.Clause
		want bool
	}{{api.Clause{Null: []int{1}}, false}, {api.Clause{Null: []int{0}, NotNull: []int{0}}, false}, {api.Clause{Null: []int{0, 3}}, true}, {api.Clause{NotNull: []int{0, 1, 3}}, true}, {api.Clause{}, true}} {
		row, ok := check(t, variables, c.c)
		if ok != c.want || ok && len(row) != len(variables) {
			t.Errorf("case %d: %s, %v", i, value.FormatRow(row), ok)
		}
	}
	if row, _, ok := Clause(nil, api.Clause{}); len(row) != 0 || !ok {
		t.Error("without variables")
	}
	if _, ok := check(t, nil, api.Clause{Ints: []api.Constraint{{Linear: api.Linear{Const: 1}}}}); ok {
		t.Error("a contradiction without variables")
	}
}

func TestSatisfies(t *testing.T) {
	c := api.Clause{NotNull: []int{0}, Ints: []api.Constraint{{Linear: api.Linear{Const: -2, Coefs: []api.Coef{{Var: 0, N: 1}}}}}}
	row := func(change func(api.Row)) api.Row {
		r := api.Row{value.Int(1), value.Int(0), {}, {}, value.Text("ab"), {}}
		change(r)
		return r
	}
	for i, x := range []struct {
		r    api.Row
		want bool
	}{{row(func(api.Row) {}), true}, {row(func(r api.Row) { r[0] = value.Int(3) }), false}, {row(func(r api.Row) { r[0] = value.Int(-5) }), false}, {row(func(r api.Row) { r[0] = api.Value{} }), false}, {row(func(r api.Row) { r[1] = api.Value{} }), false}, {row(func(r api.Row) { r[4] = value.Text("abc") }), false}, {row(func(r api.Row) { r[5] = value.Int(1) }), false}, {row(func(r api.Row) { r[5] = value.Text("\n") }), false}, {nil, false}, {row(func(api.Row) {})[:5], false}, {append(row(func(api.Row) {}), api.Value{}), false}} {
		if Satisfies(variables, c, x.r) != x.want {
			t.Errorf("case %d: Satisfies is %v", i, !x.want)
		}
	}
}

func TestAny(t *testing.T) {
	clause := func(s string) api.Clause {
		_, f := translate(t, s)
		l, _ := dnf.Clauses(f, variables)
		return l[0]
	}
	yes, other, no, never := clause("a = 3"), clause("a = 4"), clause("a = 3 AND a = 4"), clause("LENGTH(s) = 2 AND s LIKE 'a'")
	row, i, l := Any(variables, []api.Clause{no, never, yes, other})
	if i != 2 || l != nil || row[0] != value.Int(3) {
		t.Errorf("Any = %s, %d, %v", value.FormatRow(row), i, l)
	}
	row, i, l = Any(variables, []api.Clause{no, never})
	if row != nil || i != -1 || len(l) != 2 || !refutation.Check(variables, no, l[0]) || !refutation.Check(variables, never, l[1]) {
		t.Errorf("Any = %s, %d, %v", value.FormatRow(row), i, l)
	}
	if row, i, l := Any(variables, nil); row != nil || i != -1 || len(l) != 0 {
		t.Errorf("Any without clauses = %s, %d, %v", value.FormatRow(row), i, l)
	}
	if l[1].Kind != api.RefuteLength {
		t.Errorf("the refutation is %s", refutation.Format(l[1]))
	}
}

func TestTooLarge(t *testing.T) {
	atom := api.Formula{Kind: api.FormulaAtom, Atom: api.Atom{Kind: api.AtomNull}}
	wide := api.Formula{Kind: api.FormulaOr, Args: slices.Repeat([]api.Formula{atom}, 257)}
	if row, ok, e := Formula(variables, wide); row != nil || ok || e != api.ErrTooLarge {
		t.Errorf("Formula = %v, %v, %d", row, ok, e)
	}
	wide.Args = wide.Args[1:]
	if _, ok, e := Formula(variables, wide); !ok || e != api.OK {
		t.Errorf("Formula = %v, %d", ok, e)
	}
	if row, ok, e := Formula(variables, api.Formula{Kind: api.FormulaOr}); row != nil || ok || e != api.OK {
		t.Errorf("Formula = %v, %v, %d", row, ok, e)
	}
}
