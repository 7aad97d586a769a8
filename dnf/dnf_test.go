package dnf

import (
	"math"
	"math/rand"
	"reflect"
	"slices"
	"strings"
	"testing"

	"disjoint/api"
	"disjoint/binder"
	"disjoint/copies"
	"disjoint/evaluate"
	"disjoint/formula"
	"disjoint/parser"
	"disjoint/schema"
	"disjoint/value"
)

// columns x0 and x1 are integers, x2, x3 and x4 texts; x1 and x4 are never NULL.
var table = api.Table{Name: "t", Columns: []api.Column{
	{Name: "a", Type: api.Integer, Low: -3, High: 3}, {Name: "b", Type: api.Integer, Low: -3, High: 3, NotNull: true},
	{Name: "s", Type: api.Text, Max: 3}, {Name: "t", Type: api.Text, Max: 3}, {Name: "u", Type: api.Text, Max: 3, NotNull: true},
}}

var variables = schema.Variables(table)

const n = 5

func bind(t *testing.T, s string) api.Expr {
	t.Helper()
	e, offset, err := parser.Expression(s)
	if err != api.OK {
		t.Fatalf("%q: %d at %d", s, err, offset)
	}
	b, _, err := binder.Check(table, e)
	if err != api.OK {
		t.Fatalf("%q: %d", s, err)
	}
	return b
}

func whenTrue(t *testing.T, s string) api.Formula {
	t.Helper()
	f, err := formula.WhenTrue(bind(t, s), variables)
	if err != api.OK {
		t.Fatalf("%q: %d", s, err)
	}
	return f
}

func clauses(t *testing.T, f api.Formula) []api.Clause {
	t.Helper()
	l, err := Clauses(f, variables)
	if err != api.OK {
		t.Fatalf("%s: %d", formula.Format(f), err)
	}
	for _, c := range l {
		if !Valid(c, variables) {
			t.Fatalf("not valid: %s", Format(c, n))
		}
	}
	return l
}

// rows are all rows of a selection of values, some of them NULL.
func rows() []api.Row {
	l := []api.Row{nil}
	for _, x := range variables {
		values := []api.Value{value.Int(-3), value.Int(0), value.Int(1), value.Int(2)}
		if x.Type == api.Text {
			values = []api.Value{value.Text(""), value.Text("a"), value.Text("ab")}
		}
		if x.Nullable {
			values = append(values, api.Value{})
		}
		var longer []api.Row
		for _, r := range l {
			for _, v := range values {
				longer = append(longer, append(slices.Clone(r), v))
			}
		}
		l = longer
	}
	return l
}

func anyHolds(l []api.Clause, r api.Row) bool {
	return slices.ContainsFunc(l, func(c api.Clause) bool { return Holds(c, r) })
}

var atoms = []string{"a < b", "a + 1 >= b * 2", "a % 2 = 1", "a / 2 <> b", "LENGTH(s) <= a", "a - a = 0", "s = 'a'", "s <> 'ab'", "t < 'b'", "'a' >= t", "u > 'a'", "s = t", "t <> s", "u = s", "t LIKE 'a%'", "u LIKE '_'", "a = NULL", "a + b IS NULL", "s IS NULL", "u IS NULL", "b IS NULL", "NULL IS NULL", "LENGTH(u) + LENGTH(t) = 2", "(a + LENGTH(s)) % 3 > b / 2", "a = 1", "b <> 0", "(a / 2 + b) / 2 * 2 <> a / 2", "1 < 2", "2 < 1"}

func randomCondition(r *rand.Rand, depth int) string {
	if depth == 0 {
		return atoms[r.Intn(len(atoms))]
	}
	switch r.Intn(4) {
	case 0:
		return "NOT (" + randomCondition(r, depth-1) + ")"
	case 1:
		return "(" + randomCondition(r, depth-1) + ") OR (" + randomCondition(r, depth-1) + ")"
	}
	return "(" + randomCondition(r, depth-1) + ") AND (" + randomCondition(r, depth-1) + ")"
}

func TestMeaning(t *testing.T) {
	r := rand.New(rand.NewSource(22))
	all := rows()
	for i := range 400 {
		s := randomCondition(r, r.Intn(4))
		if i < len(atoms) {
			s = atoms[i]
		}
		e := bind(t, s)
		for k, translate := range []func(api.Expr, []api.Variable) (api.Formula, api.Errno){formula.WhenTrue, formula.WhenFalse, formula.WhenNotFalse} {
			f, _ := translate(e, variables)
			kept := copies.Formula(f)
			want := naiveCount(f)
			if want > api.MaxClauses {
				continue
			}
			l := clauses(t, f)
			if len(l) > want {
				t.Fatalf("%s: %d clauses, count %d", s, len(l), want)
			}
			if !reflect.DeepEqual(f, kept) {
				t.Fatal("the formula is changed")
			}
			for range 30 {
				row := all[r.Intn(len(all))]
				v := evaluate.Condition(e, row)
				want := []bool{v == api.True, v == api.False, v != api.False}[k]
				if anyHolds(l, row) != want || formula.Holds(f, row) != want {
					t.Fatalf("translation %d of %s in %s: %s", k, s, value.FormatRow(row), formula.Format(f))
				}
			}
		}
	}
}

// naiveCount is the count of the simplified formula, as a float, so that nothing overflows.
func naiveCount(f api.Formula) int {
	return int(math.Min(1e9, countOf(f)))
}

func countOf(f api.Formula) float64 {
	if f.Kind == api.FormulaAtom {
		nullable := variables[f.Atom.Var].Nullable
		switch {
		case f.Atom.Kind == api.AtomNull && !nullable:
			return 0
		case f.Atom.Kind == api.AtomNonzero:
			return 2
		}
		return 1
	}
	n := float64(1 - f.Kind)
	for _, g := range f.Args {
		if f.Kind == api.FormulaAnd {
			n *= countOf(g)
		} else {
			n += countOf(g)
		}
	}
	return n
}

func atom(a api.Atom) api.Formula { return api.Formula{Kind: api.FormulaAtom, Atom: a} }

func and(l ...api.Formula) api.Formula { return api.Formula{Args: l} }

func or(l ...api.Formula) api.Formula { return api.Formula{Kind: api.FormulaOr, Args: l} }

func repeat(f api.Formula, n int) []api.Formula {
	l := make([]api.Formula, n)
	for i := range l {
		l[i] = f
	}
	return l
}

func TestCount(t *testing.T) {
	null := atom(api.Atom{Kind: api.AtomNull})
	never := atom(api.Atom{Kind: api.AtomNull, Var: 1})
	always := atom(api.Atom{Kind: api.AtomNotNull, Var: 1})
	nonzero := atom(api.Atom{Kind: api.AtomNonzero, Term: api.Term{Const: 1, Parts: []api.Part{{Coef: 1, Var: 1}}}})
	two, big := or(null, always), or(repeat(null, 300)...)
	for i, c := range []struct {
		f    api.Formula
		want api.Errno
	}{
		{and(), api.OK}, {or(), api.OK}, {or(repeat(null, 256)...), api.OK}, {or(repeat(null, 257)...), api.ErrTooLarge}, {or(repeat(always, 257)...), api.ErrTooLarge}, {or(repeat(never, 1000)...), api.OK},
		{and(repeat(two, 8)...), api.OK}, {and(repeat(two, 9)...), api.ErrTooLarge}, {and(repeat(nonzero, 8)...), api.OK}, {and(repeat(nonzero, 9)...), api.ErrTooLarge}, {or(repeat(nonzero, 128)...), api.OK}, {or(repeat(nonzero, 129)...), api.ErrTooLarge},
		{and(big, never), api.OK}, {and(never, big, big), api.OK}, {or(and(big, big, or()), null), api.OK}, {and(big, null), api.ErrTooLarge}, {and(repeat(null, 1000)...), api.OK}, {and(append(repeat(two, 200), never)...), api.OK}, {and(repeat(two, 200)...), api.ErrTooLarge},
	} {
		l, err := Clauses(c.f, variables)
		if err != c.want || err != api.OK && l != nil || err == api.OK && len(l) > naiveCount(c.f) || (naiveCount(c.f) > 256) != (err != api.OK) {
			t.Errorf("case %d: %d clauses, %d", i, len(l), err)
		}
	}
	if l := clauses(t, and()); len(l) != 1 || Format(l[0], n) != "TRUE" {
		t.Error("the clauses of TRUE")
	}
	if len(clauses(t, or())) != 0 || len(clauses(t, never)) != 0 || Format(clauses(t, always)[0], n) != "TRUE" {
		t.Error("the clauses of FALSE, or of simplified atoms")
	}
}

func TestTexts(t *testing.T) {
	for s, want := range map[string]string{
		"b <> 3":                             "x1 IS NOT NULL AND x1 - 2 <= 0 | x1 IS NOT NULL AND -x1 + 4 <= 0",
		"a % 2 = 1":                          "x0 IS NOT NULL AND x5 = div(x0, 2) AND x0 - 2*x5 - 1 = 0",
		"s IS NULL AND LENGTH(t) * 3 < a":    "x2 IS NULL AND x0 IS NOT NULL AND x3 IS NOT NULL AND x5 = length(x3) AND -x0 + 3*x5 + 1 <= 0",
		"s = 'a' AND t <> s AND u = t":       "x2 IS NOT NULL AND x3 IS NOT NULL AND x4 IS NOT NULL AND x2 = 'a' AND x3 = x4 AND x2 <> x3",
		"(a / 2 + 1) / 3 = a / 2 AND b = -1": "x0 IS NOT NULL AND x1 IS NOT NULL AND x5 = div(x0, 2) AND x6 = div(x5 + 1, 3) AND -x5 + x6 = 0 AND x1 + 1 = 0",
	} {
		var texts []string
		for _, c := range clauses(t, whenTrue(t, s)) {
			texts = append(texts, Format(c, n))
		}
		if got := strings.Join(texts, " | "); got != want {
			t.Errorf("%s: %s", s, got)
		}
	}
}

func TestFormat(t *testing.T) {
	test := func(kind int, negated bool, s string) api.Test {
		return api.Test{Var: 2, Kind: kind, Negated: negated, Text: s}
	}
	c := api.Clause{
		Null: []int{0}, NotNull: []int{1, 2, 3},
		Auxiliary: []api.Auxiliary{{Of: api.Linear{Const: 1, Coefs: []api.Coef{{Var: 1, N: 2}}}, By: 3}, {Text: 2}, {Of: api.Linear{Coefs: []api.Coef{{Var: 4, N: -1}}}, By: 1}, {By: 7}},
		Ints:      []api.Constraint{{Linear: api.Linear{Const: 3, Coefs: []api.Coef{{Var: 1, N: 2}, {Var: 5, N: -1}}}}, {Linear: api.Linear{}, Equal: true}},
		Tests:     []api.Test{test(0, false, "a"), test(1, false, "a%"), test(2, false, "a"), test(3, false, "a"), test(0, true, "it's"), test(1, true, "_"), test(2, true, "a"), test(3, true, "a")},
		Same:      [][2]int{{2, 3}}, Different: [][2]int{{1, 3}},
	}
	want := "x0 IS NULL AND x1 IS NOT NULL AND x2 IS NOT NULL AND x3 IS NOT NULL AND x4 = div(2*x1 + 1, 3) AND x5 = length(x2) AND x6 = div(-x4, 1) AND x7 = div(0, 7) AND 2*x1 - x5 + 3 <= 0 AND 0 = 0 AND x2 = 'a' AND x2 LIKE 'a%' AND x2 < 'a' AND x2 <= 'a' AND x2 <> 'it''s' AND x2 NOT LIKE '_' AND x2 >= 'a' AND x2 > 'a' AND x2 = x3 AND x1 <> x3"
	if got := Format(c, 4); got != want {
		t.Errorf("Format = %s", got)
	}
}

// randomClause is a clause that is valid over the variables.
func randomClause(r *rand.Rand) api.Clause {
	c := api.Clause{}
	for i, x := range variables {
		switch r.Intn(4) {
		case 0:
			if x.Nullable {
				c.Null = append(c.Null, i)
			}
		case 1, 2, 3:
			c.NotNull = append(c.NotNull, i)
		}
	}
	var ints, texts []int
	for _, v := range c.NotNull {
		if variables[v].Type == api.Integer {
			ints = append(ints, v)
		} else {
			texts = append(texts, v)
		}
	}
	form := func() api.Linear {
		f := api.Linear{Const: r.Int63n(7) - 3}
		for _, v := range ints {
			if k := r.Int63n(5) - 2; k != 0 && r.Intn(2) == 0 {
				f.Coefs = append(f.Coefs, api.Coef{Var: v, N: k})
			}
		}
		return f
	}
	for range r.Intn(3) {
		a := api.Auxiliary{Of: form(), By: 1 + r.Int63n(3)}
		if len(texts) > 0 && r.Intn(2) == 0 {
			a = api.Auxiliary{Text: texts[r.Intn(len(texts))]}
		}
		c.Auxiliary = append(c.Auxiliary, a)
		ints = append(ints, n+len(c.Auxiliary)-1)
	}
	for range r.Intn(3) {
		c.Ints = append(c.Ints, api.Constraint{Linear: form(), Equal: r.Intn(3) == 0})
	}
	if len(texts) > 0 {
		for range r.Intn(3) {
			c.Tests = append(c.Tests, api.Test{Var: texts[r.Intn(len(texts))], Kind: r.Intn(4), Negated: r.Intn(2) == 0, Text: []string{"a", "ab", "a%", "_"}[r.Intn(4)]})
		}
	}
	if len(texts) > 1 {
		pair := [][2]int{{texts[0], texts[1]}}
		if r.Intn(3) == 0 {
			c.Same = pair
		} else if r.Intn(2) == 0 {
			c.Different = pair
		}
	}
	return c
}

// naiveHolds reads the definition.
func naiveHolds(c api.Clause, r api.Row) bool {
	for _, v := range c.Null {
		if r[v].Kind != api.Null {
			return false
		}
	}
	for _, v := range c.NotNull {
		if r[v].Kind == api.Null {
			return false
		}
	}
	all := make([]int64, 0, 9)
	for _, v := range r {
		all = append(all, v.Int)
	}
	sum := func(f api.Linear) int64 {
		s := f.Const
		for _, k := range f.Coefs {
			s += k.N * all[k.Var]
		}
		return s
	}
	for _, a := range c.Auxiliary {
		if a.By == 0 {
			all = append(all, int64(len(r[a.Text].Text)))
		} else {
			all = append(all, int64(math.Floor(float64(sum(a.Of))/float64(a.By))))
		}
	}
	for _, x := range c.Ints {
		if s := sum(x.Linear); s > 0 || x.Equal && s != 0 {
			return false
		}
	}
	for _, x := range c.Tests {
		s := r[x.Var].Text
		if []bool{s == x.Text, evaluate.Like(s, x.Text), s < x.Text, s <= x.Text}[x.Kind] == x.Negated {
			return false
		}
	}
	for _, p := range c.Same {
		if r[p[0]].Text != r[p[1]].Text {
			return false
		}
	}
	for _, p := range c.Different {
		if r[p[0]].Text == r[p[1]].Text {
			return false
		}
	}
	return true
}

func TestHoldsRenameAndJoin(t *testing.T) {
	r := rand.New(rand.NewSource(23))
	all := rows()
	held := 0
	for range 2000 {
		a, b := randomClause(r), randomClause(r)
		if !Valid(a, variables) {
			t.Fatalf("not valid: %s", Format(a, n))
		}
		keptA, keptB := copies.Clause(a), copies.Clause(b)
		both := Join(a, b, n)
		// The renamed clause has two further variables, an integer and a text.
		to := r.Perm(n + 2)[:n]
		renamed := Rename(a, to, n+2)
		domains := make([]api.Variable, n+2)
		for i, x := range variables {
			domains[to[i]] = x
		}
		if !Valid(both, variables) || !Valid(renamed, domains) {
			t.Fatalf("not valid: %s, %s", Format(both, n), Format(renamed, n+2))
		}
		for range 30 {
			row := all[r.Intn(len(all))]
			holds := Holds(a, row)
			if holds != naiveHolds(a, row) {
				t.Fatalf("Holds(%s) in %s is %v", Format(a, n), value.FormatRow(row), holds)
			}
			if Holds(both, row) != (holds && Holds(b, row)) {
				t.Fatalf("the conjunction of %s and %s", Format(a, n), Format(b, n))
			}
			moved := make(api.Row, n+2)
			for i, v := range row {
				moved[to[i]] = v
			}
			if Holds(renamed, moved) != holds {
				t.Fatalf("%s is renamed to %s", Format(a, n), Format(renamed, n+2))
			}
			if holds {
				held++
			}
		}
		spoil(both)
		spoil(renamed)
		if !reflect.DeepEqual(a, keptA) || !reflect.DeepEqual(b, keptB) {
			t.Fatal("an argument is changed, or shares memory with a result")
		}
	}
	if held < 1000 {
		t.Errorf("clauses held only %d times", held)
	}
}

func spoil(c api.Clause) {
	for _, l := range [][]int{c.Null, c.NotNull} {
		for i := range l {
			l[i] = 99
		}
	}
	for i := range c.Auxiliary {
		for j := range c.Auxiliary[i].Of.Coefs {
			c.Auxiliary[i].Of.Coefs[j].N = 99
		}
		c.Auxiliary[i].By = 99
	}
	for i := range c.Ints {
		for j := range c.Ints[i].Linear.Coefs {
			c.Ints[i].Linear.Coefs[j].N = 99
		}
	}
	for i := range c.Tests {
		c.Tests[i].Text = "99"
	}
	for _, l := range [][][2]int{c.Same, c.Different} {
		for i := range l {
			l[i] = [2]int{99, 99}
		}
	}
}

func coefs(l ...int64) []api.Coef {
	var c []api.Coef
	for i := 0; i < len(l); i += 2 {
		c = append(c, api.Coef{Var: int(l[i]), N: l[i+1]})
	}
	return c
}

func TestRenameAndJoinExactly(t *testing.T) {
	c := api.Clause{Null: []int{0}, NotNull: []int{1, 2, 3}, Auxiliary: []api.Auxiliary{{Text: 2}, {Of: api.Linear{Const: 1, Coefs: coefs(1, 5, 4, -1)}, By: 2}}, Ints: []api.Constraint{{Linear: api.Linear{Coefs: coefs(1, 1, 4, 2, 5, 3)}}}, Tests: []api.Test{{Var: 3, Text: "a"}, {Var: 2, Text: "b"}}, Same: [][2]int{{2, 3}}, Different: [][2]int{{2, 3}}}
	got := Rename(c, []int{4, 3, 5, 0}, 6)
	want := api.Clause{Null: []int{4}, NotNull: []int{0, 3, 5}, Auxiliary: []api.Auxiliary{{Text: 5}, {Of: api.Linear{Const: 1, Coefs: coefs(3, 5, 6, -1)}, By: 2}}, Ints: []api.Constraint{{Linear: api.Linear{Coefs: coefs(3, 1, 6, 2, 7, 3)}}}, Tests: []api.Test{{Var: 0, Text: "a"}, {Var: 5, Text: "b"}}, Same: [][2]int{{0, 5}}, Different: [][2]int{{0, 5}}}
	if !reflect.DeepEqual(got, want) {
		t.Errorf("Rename = %s", Format(got, 6))
	}
	d := api.Clause{Null: []int{0, 3}, NotNull: []int{1}, Auxiliary: []api.Auxiliary{{Of: api.Linear{Coefs: coefs(1, 1)}, By: 3}, {Of: api.Linear{Coefs: coefs(4, 1)}, By: 3}}, Ints: []api.Constraint{{Linear: api.Linear{Coefs: coefs(4, 1, 5, 1)}, Equal: true}}}
	got = Join(c, d, 4)
	want = api.Clause{Null: []int{0, 3}, NotNull: []int{1, 2, 3}, Auxiliary: append(slices.Clone(c.Auxiliary), api.Auxiliary{Of: api.Linear{Coefs: coefs(1, 1)}, By: 3}, api.Auxiliary{Of: api.Linear{Coefs: coefs(6, 1)}, By: 3}), Ints: append(slices.Clone(c.Ints), api.Constraint{Linear: api.Linear{Coefs: coefs(6, 1, 7, 1)}, Equal: true}), Tests: c.Tests, Same: c.Same, Different: c.Different}
	if !reflect.DeepEqual(got, want) {
		t.Errorf("Join = %s", Format(got, 4))
	}
}

func TestAuxiliary(t *testing.T) {
	c := api.Clause{NotNull: []int{0, 2}, Auxiliary: []api.Auxiliary{{Of: api.Linear{Const: -1, Coefs: coefs(0, 1)}, By: 3}, {Text: 2}, {Of: api.Linear{Coefs: coefs(5, 2, 6, 1)}, By: 4}}}
	row := api.Row{value.Int(-3), {}, value.Text("abc"), {}, {}}
	if got, ok := Auxiliary(c, row); !ok || !slices.Equal(got, []int64{-2, 3, -1}) {
		t.Errorf("Auxiliary = %v, %v", got, ok)
	}
	for i, r := range []api.Row{{{}, {}, value.Text("abc"), {}, {}}, {value.Int(1), {}, {}, {}, {}}, {value.Text("a"), {}, value.Text("abc"), {}, {}}, {value.Int(1), {}, value.Int(2), {}, {}}} {
		if got, ok := Auxiliary(c, r); ok || got != nil || Holds(c, r) {
			t.Errorf("case %d: Auxiliary = %v, %v", i, got, ok)
		}
	}
	if got, ok := Auxiliary(api.Clause{}, row); !ok || len(got) != 0 {
		t.Errorf("Auxiliary without any = %v, %v", got, ok)
	}
}

func TestHoldsWithWrongKinds(t *testing.T) {
	row := api.Row{value.Text("a"), value.Int(1), value.Int(2), {}, value.Text("b")}
	for i, c := range []api.Clause{
		{NotNull: []int{0}, Ints: []api.Constraint{{Linear: api.Linear{Const: -5, Coefs: coefs(0, 1)}}}}, {NotNull: []int{2}, Tests: []api.Test{{Var: 2, Negated: true, Text: "a"}}}, {Tests: []api.Test{{Var: 3, Negated: true, Text: "a"}}}, {Same: [][2]int{{2, 3}}}, {Different: [][2]int{{2, 4}}}, {Different: [][2]int{{3, 4}}}, {Null: []int{0}}, {NotNull: []int{3}},
	} {
		if Holds(c, row) {
			t.Errorf("case %d holds", i)
		}
	}
	if !Holds(api.Clause{Null: []int{3}, NotNull: []int{0, 4}, Different: [][2]int{{0, 4}}}, row) {
		t.Error("a clause that holds")
	}
}
