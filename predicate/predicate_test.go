package predicate

import (
	"math/rand"
	"reflect"
	"slices"
	"testing"

	"disjoint/api"
	"disjoint/binder"
	"disjoint/copies"
	"disjoint/decide"
	"disjoint/dnf"
	"disjoint/formula"
	"disjoint/parser"
	"disjoint/refutation"
	"disjoint/schema"
	"disjoint/value"
)

// The columns x, y and s, and further variables z and w.
var table = api.Table{Name: "t", Columns: []api.Column{
	{Name: "x", Type: api.Integer, Low: 0, High: 4}, {Name: "y", Type: api.Integer, Low: -1, High: 2, NotNull: true}, {Name: "s", Type: api.Text, Max: 1},
	{Name: "z", Type: api.Integer, Low: 0, High: 3}, {Name: "w", Type: api.Text, Max: 1, NotNull: true},
}}

var all = schema.Variables(table)

const columns = 3

// predicateOf is the predicate of a condition over the first n variables.
func predicateOf(t *testing.T, n int, s string) api.Predicate {
	t.Helper()
	e, offset, err := parser.Expression(s)
	if err != api.OK {
		t.Fatalf("%q: %d at %d", s, err, offset)
	}
	part := table
	part.Columns = table.Columns[:n]
	b, _, err := binder.Check(part, e)
	if err != api.OK {
		t.Fatalf("%q: %d", s, err)
	}
	f, err := formula.WhenTrue(b, all[:n])
	if err != api.OK {
		t.Fatalf("%q: %d", s, err)
	}
	p, err := Of(1, columns, all[:n], f)
	if err != api.OK || !Valid(p, columns) || p.Table != 1 || p.Columns != columns || !slices.Equal(p.Variables, all[:n]) {
		t.Fatalf("%q: %v, %d", s, p, err)
	}
	return p
}

// values are all values of a variable, of texts only some.
func values(x api.Variable) []api.Value {
	var l []api.Value
	if x.Nullable {
		l = append(l, api.Value{})
	}
	if x.Type == api.Text {
		return append(l, value.Text(""), value.Text("a"), value.Text("b"), value.Text("~"))
	}
	for n := x.Low; n <= x.High; n++ {
		l = append(l, value.Int(n))
	}
	return l
}

func rows(l []api.Variable) []api.Row {
	r := []api.Row{nil}
	for _, x := range l {
		var longer []api.Row
		for _, row := range r {
			for _, v := range values(x) {
				longer = append(longer, append(slices.Clone(row), v))
			}
		}
		r = longer
	}
	return r
}

// belongs tries all values of the further variables.
func belongs(p api.Predicate, row api.Row) bool {
	for _, more := range rows(p.Variables[columns:]) {
		full := slices.Concat(row, more)
		if slices.ContainsFunc(p.Clauses, func(c api.Clause) bool { return dnf.Holds(c, full) }) {
			return true
		}
	}
	return false
}

var conditions = []string{"x < 3", "x >= 3", "x % 2 = 0", "x % 2 = 1", "x IS NULL", "y = 0", "y > 0 AND x = y", "x <> y", "s = 'a'", "s <> 'a'", "s IS NULL", "s LIKE 'b%'", "LENGTH(s) = 1", "LENGTH(s) = x", "x > 1 OR s = 'b'", "NULL", "1 = 1", "x = 1 AND x = 2", "s > 'a' AND s < 'b'"}

var further = []string{"x = 2 * z", "x + z = 4 AND y < z", "s = w", "s <> w AND w <> 'a' AND w <> 'b' AND w <> '' AND w <> '~'", "z = 3 AND x = z", "z IS NULL AND x = 0", "LENGTH(w) = x AND y = 1", "z > x", "w = 'a' AND s <> w AND z * 2 = y + 1", "z < 0"}

func random(t *testing.T, r *rand.Rand) api.Predicate {
	if r.Intn(2) == 0 {
		return predicateOf(t, columns, conditions[r.Intn(len(conditions))]+" AND "+conditions[r.Intn(len(conditions))])
	}
	return predicateOf(t, len(all), conditions[r.Intn(len(conditions))]+" AND "+further[r.Intn(len(further))])
}

func TestOverlap(t *testing.T) {
	r := rand.New(rand.NewSource(50))
	every := rows(all[:columns])
	count := map[bool]int{}
	for range 700 {
		p, q := random(t, r), random(t, r)
		keptP, keptQ := copies.Predicate(p), copies.Predicate(q)
		want := slices.ContainsFunc(every, func(row api.Row) bool { return belongs(p, row) && belongs(q, row) })
		row, ok := Overlap(p, q)
		// The rows that are tried contain only some texts; so a row can be found that is not among them.
		if want && !ok || ok && (!Matches(p, row) || !Matches(q, row)) || !ok && row != nil {
			t.Fatalf("Overlap(%v, %v) = %s, %v", p, q, value.FormatRow(row), ok)
		}
		if _, back := Overlap(q, p); back != ok {
			t.Fatal("Overlap is not symmetric")
		}
		l, separate := Separate(p, q)
		if separate == ok || !separate && l != nil || separate && (!Check(p, q, l) || len(l) != len(p.Clauses)*len(q.Clauses)) {
			t.Fatalf("Separate(%v, %v) = %v, %v", p, q, l, separate)
		}
		if !reflect.DeepEqual(p, keptP) || !reflect.DeepEqual(q, keptQ) {
			t.Fatal("an argument is changed")
		}
		count[ok]++
		checkPairs(t, p, q, l)
	}
	if count[true] < 100 || count[false] < 100 {
		t.Errorf("counts: %v", count)
	}
}

// checkPairs checks that each refutation belongs to its pair, and that no other list of refutations is accepted.
func checkPairs(t *testing.T, p, q api.Predicate, l []api.Refutation) {
	t.Helper()
	for i := range p.Clauses {
		for j := range q.Clauses {
			variables, c := Pair(p, q, i, j)
			if !slices.Equal(variables, slices.Concat(p.Variables, q.Variables[columns:])) || !dnf.Valid(c, variables) {
				t.Fatalf("Pair(%d, %d) = %v, %s", i, j, variables, dnf.Format(c, len(variables)))
			}
			_, r, ok := decide.Clause(variables, c)
			if l != nil && (ok || !refutation.Check(variables, c, l[i*len(q.Clauses)+j])) || ok && Check(p, q, slices.Repeat([]api.Refutation{r}, len(p.Clauses)*len(q.Clauses))) {
				t.Fatalf("the refutation of pair %d, %d", i, j)
			}
		}
	}
	if len(l) > 0 && (Check(p, q, l[1:]) || Check(p, q, append(slices.Clone(l), l[0])) || Check(p, q, nil)) {
		t.Fatal("a list of another length is accepted")
	}
}

func TestMatches(t *testing.T) {
	r := rand.New(rand.NewSource(51))
	every := rows(all[:columns])
	for range 60 {
		p := random(t, r)
		empty := true
		for range 40 {
			row := every[r.Intn(len(every))]
			want := belongs(p, row)
			got := Matches(p, row)
			// The further variable w can be a text that is not tried.
			if want && !got || got && !want && len(p.Variables) == columns {
				t.Fatalf("Matches(%v, %s) = %v", p, value.FormatRow(row), got)
			}
			exactly := Exactly(1, all[:columns], row)
			if _, ok := Overlap(p, exactly); ok != got {
				t.Fatalf("%s belongs to the predicate: %v, but it overlaps Exactly: %v", value.FormatRow(row), got, ok)
			}
			empty = empty && !got
		}
		if Empty(p) && !empty {
			t.Fatalf("%v is not empty", p)
		}
		if !Empty(p) {
			if row, i, _ := decide.Any(p.Variables, p.Clauses); i < 0 || !Matches(p, row[:columns]) {
				t.Fatalf("%v is empty", p)
			}
		}
	}
	p := predicateOf(t, columns, "1 = 1")
	for _, row := range []api.Row{nil, {value.Int(1), value.Int(0)}, {value.Int(1), value.Int(0), {}, {}}, {value.Int(5), value.Int(0), {}}, {value.Int(1), {}, {}}, {value.Int(1), value.Int(0), value.Text("ab")}, {value.Text("a"), value.Int(0), {}}} {
		if Matches(p, row) {
			t.Errorf("%s belongs to the predicate", value.FormatRow(row))
		}
	}
	if !Matches(p, api.Row{{}, value.Int(2), {}}) {
		t.Error("a row does not belong to the predicate")
	}
}

func TestExamples(t *testing.T) {
	for _, c := range []struct {
		a, b string
		want bool
	}{{"x <= 2", "x >= 3", false}, {"x <= 3", "x >= 3", true}, {"x % 2 = 0", "x % 2 = 1", false}, {"s LIKE 'a%'", "s = 'a'", true}, {"LENGTH(s) = 1 AND s LIKE '%a%'", "s <> 'a'", false}, {"x IS NULL", "x = x", false}, {"1 = 2", "1 = 1", false}} {
		if _, ok := Overlap(predicateOf(t, columns, c.a), predicateOf(t, columns, c.b)); ok != c.want {
			t.Errorf("%s and %s: %v", c.a, c.b, ok)
		}
	}
	l := []api.Variable{{Type: api.Integer, High: 9}, {Type: api.Integer, High: 9}}
	double := api.Predicate{Columns: 1, Variables: l, Clauses: []api.Clause{{NotNull: []int{0, 1}, Ints: []api.Constraint{{Linear: api.Linear{Coefs: []api.Coef{{Var: 0, N: 1}, {Var: 1, N: -2}}}, Equal: true}}}}}
	for n := range int64(10) {
		if Matches(double, api.Row{value.Int(n)}) != (n%2 == 0) {
			t.Errorf("%d is twice another number", n)
		}
		if _, ok := Overlap(double, Exactly(0, l[:1], api.Row{value.Int(n)})); ok != (n%2 == 0) {
			t.Errorf("%d overlaps", n)
		}
	}
}

func TestOtherTables(t *testing.T) {
	p, q := predicateOf(t, columns, "1 = 1"), predicateOf(t, columns, "1 = 1")
	q.Table = 2
	if row, ok := Overlap(p, q); row != nil || ok {
		t.Error("predicates of two tables overlap")
	}
	if l, ok := Separate(p, q); len(l) != 0 || !ok {
		t.Error("predicates of two tables are not separate")
	}
	if !Check(p, q, nil) || Check(p, q, []api.Refutation{{}}) {
		t.Error("Check of two tables")
	}
	if l, c := Pair(p, q, 0, 0); l != nil || !reflect.DeepEqual(c, api.Clause{}) {
		t.Error("Pair of two tables")
	}
	q.Table = 1
	for _, x := range [][2]int{{1, 0}, {0, 1}, {-1, 0}, {0, -1}} {
		if l, c := Pair(p, q, x[0], x[1]); l != nil || !reflect.DeepEqual(c, api.Clause{}) {
			t.Errorf("Pair(%v)", x)
		}
	}
	none := predicateOf(t, columns, "NULL")
	if len(none.Clauses) != 0 || !Empty(none) || !Check(none, p, nil) || Check(none, p, []api.Refutation{{}}) {
		t.Error("a predicate without clauses")
	}
}

func TestPairExactly(t *testing.T) {
	p := api.Predicate{Table: 1, Columns: columns, Variables: all, Clauses: []api.Clause{{}, {NotNull: []int{3, 4}, Auxiliary: []api.Auxiliary{{Text: 4}}, Ints: []api.Constraint{{Linear: api.Linear{Coefs: []api.Coef{{Var: 3, N: 1}, {Var: 5, N: 2}}}}}}}}
	q := api.Predicate{Table: 1, Columns: columns, Variables: all, Clauses: []api.Clause{{Null: []int{0}, NotNull: []int{2, 3, 4}, Auxiliary: []api.Auxiliary{{Text: 2}}, Tests: []api.Test{{Var: 4}}, Same: [][2]int{{2, 4}}}}}
	l, c := Pair(p, q, 1, 0)
	want := api.Clause{Null: []int{0}, NotNull: []int{2, 3, 4, 5, 6}, Auxiliary: []api.Auxiliary{{Text: 4}, {Text: 2}}, Ints: []api.Constraint{{Linear: api.Linear{Coefs: []api.Coef{{Var: 3, N: 1}, {Var: 7, N: 2}}}}}, Tests: []api.Test{{Var: 6}}, Same: [][2]int{{2, 6}}}
	if !slices.Equal(l, slices.Concat(all, all[columns:])) || dnf.Format(c, 7) != dnf.Format(want, 7) {
		t.Errorf("Pair = %v, %s", l, dnf.Format(c, 7))
	}
}

func TestExactly(t *testing.T) {
	l := all[:columns]
	for _, row := range rows(l) {
		p := Exactly(7, l, row)
		if p.Table != 7 || !Valid(p, columns) || len(p.Clauses) != 1 || len(p.Clauses[0].Auxiliary) != 0 {
			t.Fatalf("Exactly(%s) = %v", value.FormatRow(row), p)
		}
		if !Matches(p, row) || Matches(p, api.Row{value.Int(1), value.Int(1), value.Text("c")}) {
			t.Fatalf("the rows of Exactly(%s)", value.FormatRow(row))
		}
	}
	for _, row := range []api.Row{nil, {value.Int(1), value.Int(0)}, {value.Int(9), value.Int(0), {}}, {value.Int(1), {}, {}}, {value.Int(1), value.Int(0), value.Int(0)}} {
		if p := Exactly(7, l, row); len(p.Clauses) != 0 || !Valid(p, columns) {
			t.Errorf("Exactly(%s) = %v", value.FormatRow(row), p)
		}
	}
	extremes := []api.Variable{{Type: api.Integer, Low: api.MinInteger, High: api.MaxInteger}, {Type: api.Text, Max: 16}}
	row := api.Row{value.Int(api.MinInteger), value.Text("sixteen letters!")}
	if p := Exactly(0, extremes, row); !Valid(p, 2) || !Matches(p, row) || Matches(p, api.Row{value.Int(api.MaxInteger), row[1]}) {
		t.Error("a row with extreme values")
	}
}

func TestValid(t *testing.T) {
	good := predicateOf(t, len(all), "x = z AND s = w")
	wide := func(n int) api.Predicate {
		return api.Predicate{Columns: 1, Variables: slices.Repeat([]api.Variable{{Type: api.Integer}}, n)}
	}
	many := func(n int) api.Predicate {
		p := wide(1)
		p.Clauses = make([]api.Clause, n)
		return p
	}
	if !Valid(good, 3) || !Valid(wide(64), 1) || !Valid(many(256), 1) {
		t.Error("a predicate is not valid")
	}
	if Valid(good, 2) || Valid(good, 4) || Valid(wide(65), 1) || Valid(many(257), 1) || Valid(wide(0), 0) || Valid(api.Predicate{}, 0) || Valid(api.Predicate{Columns: 1}, 1) {
		t.Error("a predicate is valid")
	}
	for what, change := range map[string]func(p *api.Predicate){
		"table": func(p *api.Predicate) { p.Table = -1 }, "columns": func(p *api.Predicate) { p.Columns = 2 }, "few variables": func(p *api.Predicate) { p.Variables = p.Variables[:2] }, "type": func(p *api.Predicate) { p.Variables[1].Type = api.Boolean }, "no type": func(p *api.Predicate) { p.Variables[1].Type = 0 }, "low": func(p *api.Predicate) { p.Variables[0].Low = 5 }, "least": func(p *api.Predicate) { p.Variables[0].Low = api.MinInteger - 1 }, "greatest": func(p *api.Predicate) { p.Variables[0].High = api.MaxInteger + 1 }, "max of integer": func(p *api.Predicate) { p.Variables[0].Max = 1 }, "max": func(p *api.Predicate) { p.Variables[2].Max = 17 }, "negative max": func(p *api.Predicate) { p.Variables[2].Max = -1 }, "low of text": func(p *api.Predicate) { p.Variables[2].Low = -1 }, "high of text": func(p *api.Predicate) { p.Variables[2].High = 1 }, "further variable": func(p *api.Predicate) { p.Variables[4].Max = 17 }, "clause": func(p *api.Predicate) { p.Clauses[0].NotNull = nil }, "null": func(p *api.Predicate) { p.Clauses[0].Null = []int{5} },
	} {
		p := copies.Predicate(good)
		change(&p)
		if Valid(p, 3) {
			t.Errorf("%s: the predicate is valid", what)
		}
	}
	zero := copies.Predicate(good)
	zero.Variables[2].Max = 0
	if !Valid(zero, 3) {
		t.Error("a text without characters")
	}
}

func TestOfTooLarge(t *testing.T) {
	atom := api.Formula{Kind: api.FormulaAtom, Atom: api.Atom{Kind: api.AtomNull}}
	wide := api.Formula{Kind: api.FormulaOr, Args: slices.Repeat([]api.Formula{atom}, 257)}
	if p, e := Of(0, columns, all, wide); e != api.ErrTooLarge || !reflect.DeepEqual(p, api.Predicate{}) {
		t.Errorf("Of = %v, %d", p, e)
	}
	wide.Args = wide.Args[1:]
	l := slices.Clone(all)
	p, e := Of(0, columns, l, wide)
	l[0].High = 99
	if e != api.OK || len(p.Clauses) > 256 || p.Variables[0].High != 4 {
		t.Errorf("Of: %d clauses, %d", len(p.Clauses), e)
	}
}
