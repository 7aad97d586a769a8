package image

import (
	"math/rand"
	"reflect"
	"slices"
	"strings"
	"testing"

	"disjoint/api"
	"disjoint/binder"
	"disjoint/copies"
	"disjoint/evaluate"
	"disjoint/formula"
	"disjoint/parser"
	"disjoint/predicate"
	"disjoint/schema"
	"disjoint/value"
)

func build(t *testing.T, s string) api.Schema {
	t.Helper()
	l, offset, e := parser.Script(s)
	if e != api.OK {
		t.Fatalf("%q: %d at %d", s, e, offset)
	}
	x, _, e := schema.Build(l)
	if e != api.OK {
		t.Fatalf("%q: %d", s, e)
	}
	x, e = binder.Schema(x)
	if e != api.OK {
		t.Fatalf("%q: %d", s, e)
	}
	return x
}

func bind(t *testing.T, s api.Schema, text string) api.Bound {
	t.Helper()
	st, offset, e := parser.Statement(text)
	if e != api.OK {
		t.Fatalf("%q: %d at %d", text, e, offset)
	}
	b, e := binder.Bind(s, st)
	if e != api.OK {
		t.Fatalf("%q: %d", text, e)
	}
	return b
}

const tables = `
CREATE TABLE other (k INTEGER);
CREATE TABLE t (a INTEGER(0, 4), b INTEGER(-1, 2) NOT NULL, s TEXT(2), u TEXT(1), CHECK (a <> 3), CHECK (a + b < 6 OR s = 'x'));
CREATE TABLE free (x INTEGER(0, 9), y INTEGER(0, 9));
CREATE TABLE single (x INTEGER(0, 9), CHECK (x > 2));`

// rows are all rows of the domains of a table, with only some of the texts.
func rows(t api.Table) []api.Row {
	l := []api.Row{nil}
	for _, x := range schema.Variables(t) {
		var values []api.Value
		if x.Type == api.Text {
			values = append(values, value.Text(""), value.Text("x"), value.Text("xy"))[:min(x.Max+1, 3)]
		}
		for n := x.Low; n <= x.High && x.Type == api.Integer; n++ {
			values = append(values, value.Int(n))
		}
		if x.Nullable {
			values = append(values, api.Value{})
		}
		var longer []api.Row
		for _, r := range l {
			for _, v := range values {
				longer = append(longer, append(slices.Clone(r), v))
			}
		}
		l = longer
	}
	return l
}

func possible(t api.Table, r api.Row) bool {
	return schema.Fits(t, r) == api.OK && !slices.ContainsFunc(t.Checks, func(e api.Expr) bool { return evaluate.Condition(e, r) == api.False })
}

func TestAssign(t *testing.T) {
	s := build(t, tables)
	b := bind(t, s, "UPDATE free SET x = y + 5, y = 0 WHERE x = 1")
	r := api.Row{value.Int(1), value.Int(2)}
	got, e := Assign(s[2], b.Statement.Sets, r)
	if e != api.OK || !slices.Equal(got, api.Row{value.Int(7), value.Int(0)}) || r[0] != value.Int(1) {
		t.Errorf("Assign = %v, %d", got, e)
	}
	b = bind(t, s, "UPDATE t SET s = u, u = s, a = a + b + 9, b = NULL")
	got, e = Assign(s[1], b.Statement.Sets, api.Row{{}, value.Int(1), value.Text("xy"), {}})
	if e != api.OK || !slices.Equal(got, api.Row{{}, {}, {}, value.Text("xy")}) {
		t.Errorf("Assign = %v, %d", got, e)
	}
	for _, r := range []api.Row{nil, {value.Int(1)}, {value.Int(1), value.Int(1), value.Int(1)}} {
		if got, e := Assign(s[2], nil, r); got != nil || e != api.ErrInvalid {
			t.Errorf("Assign of %v = %v, %d", r, got, e)
		}
	}
	same, _ := Assign(s[2], nil, r)
	same[0] = value.Int(9)
	if r[0] != value.Int(1) {
		t.Error("the result shares memory with the row")
	}
}

var assignments = []string{"a = b + 1", "a = a + 1", "a = NULL", "a = 2", "a = a % 2 + b", "a = LENGTH(s)", "a = a", "b = a", "b = -b", "b = LENGTH(u) - 1", "b = a / 2", "s = u", "s = 'x'", "s = NULL", "s = s", "u = s", "u = ''", "u = NULL", "a = a + NULL", "b = 3 * a - 2 * b", "s = 'xy'"}

// update is an UPDATE statement of the table t with some of the assignments.
func update(r *rand.Rand, where string) string {
	var l []string
	used := map[byte]bool{}
	for range 1 + r.Intn(4) {
		a := assignments[r.Intn(len(assignments))]
		if !used[a[0]] {
			used[a[0]] = true
			l = append(l, a)
		}
	}
	return "UPDATE t SET " + strings.Join(l, ", ") + where
}

var conditions = []string{"a < b", "a + b = 2", "a <> b * 2", "a / 2 = 1", "LENGTH(s) = a", "LENGTH(s) + LENGTH(u) >= b", "s = 'x'", "s <> 'xy'", "u < 'y'", "s LIKE '_'", "s = u", "u <> s", "a IS NULL", "s IS NULL", "b IS NULL", "NULL", "a - a = 0", "a = 3", "(a + LENGTH(u)) / 2 <> b", "u IS NOT NULL OR b = 1", "s = s"}

func randomCondition(r *rand.Rand) string {
	s := conditions[r.Intn(len(conditions))]
	for range r.Intn(3) {
		s = "(" + s + ")" + []string{" AND ", " OR "}[r.Intn(2)] + []string{"", "NOT "}[r.Intn(2)] + conditions[r.Intn(len(conditions))]
	}
	return s
}

func TestBefore(t *testing.T) {
	s := build(t, tables)
	table := s[1]
	variables := schema.Variables(table)
	every := rows(table)
	r := rand.New(rand.NewSource(52))
	for range 1500 {
		b := bind(t, s, update(r, " WHERE "+randomCondition(r)))
		for _, translate := range []func(api.Expr, []api.Variable) (api.Formula, api.Errno){formula.WhenTrue, formula.WhenNotFalse} {
			f, e := translate(b.Statement.Where, variables)
			if e != api.OK {
				t.Fatal(e)
			}
			kept, keptSets := copies.Formula(f), copies.Statement(b.Statement)
			g, e := Before(f, b.Statement.Sets)
			if e != api.OK || !formula.Valid(g, variables) {
				t.Fatalf("Before(%s) = %s, %d", formula.Format(f), formula.Format(g), e)
			}
			for range 40 {
				row := every[r.Intn(len(every))]
				after, _ := Assign(table, b.Statement.Sets, row)
				if formula.Holds(g, row) != formula.Holds(f, after) {
					t.Fatalf("%s becomes %s, which is wrong for %s and %s", formula.Format(f), formula.Format(g), value.FormatRow(row), value.FormatRow(after))
				}
			}
			spoil(g)
			if !reflect.DeepEqual(f, kept) || !reflect.DeepEqual(b.Statement, keptSets) {
				t.Fatal("an argument is changed, or shares memory with the result")
			}
		}
	}
}

func spoil(f api.Formula) {
	for i := range f.Args {
		spoil(f.Args[i])
		f.Args[i].Atom.Var = 99
	}
	for i := range f.Atom.Term.Parts {
		f.Atom.Term.Parts[i].Coef = 99
		f.Atom.Term.Parts[i].Of = append(f.Atom.Term.Parts[i].Of[:0], api.Term{Const: 99})
	}
}

func TestBeforeTooLarge(t *testing.T) {
	s := build(t, tables)
	part := func(coef int64, v int) api.Part { return api.Part{Coef: coef, Var: v} }
	zero := func(c int64, parts ...api.Part) api.Formula {
		return api.Formula{Kind: api.FormulaAtom, Atom: api.Atom{Kind: api.AtomZero, Term: api.Term{Const: c, Parts: parts}}}
	}
	for i, c := range []struct {
		set  string
		f    api.Formula
		want api.Errno
	}{
		{"a = 2 * b", zero(0, part(1<<19, 0)), api.OK}, {"a = 2 * b", zero(0, part(1<<19+1, 0)), api.ErrTooLarge}, {"a = 2 * b", zero(0, part(1, 0)), api.OK}, {"b = a", zero(0, part(1<<20, 0), part(1, 1)), api.ErrTooLarge}, {"b = -a", zero(0, part(1<<20, 0), part(1, 1)), api.OK},
		{"a = b + 1048576", zero(1<<40, part(1, 0)), api.ErrTooLarge}, {"a = b - 1048576", zero(1<<40, part(1, 0)), api.OK}, {"a = b + 1048576", zero(0, part(1<<20, 0)), api.OK}, {"a = b + 1048577", zero(0, part(1<<20, 0)), api.ErrTooLarge},
		// The constant of the term is added first, then the parts in order.
		{"a = b + 1, b = a - 1", zero(1<<40, part(1, 0), part(1, 1)), api.ErrTooLarge}, {"a = b - 1, b = a + 1", zero(1<<40, part(1, 0), part(1, 1)), api.OK},
		{"a = NULL", zero(1<<40, part(1, 0), part(1, 1)), api.OK}, {"a = NULL, b = 2 * a", zero(0, part(1, 0), part(1<<20, 1)), api.OK},
		{"a = 2 * b", zero(0, api.Part{Coef: 1, Kind: api.PartDiv, By: 2, Of: []api.Term{{Parts: []api.Part{part(1<<20, 0)}}}}), api.ErrTooLarge}, {"a = 2 * b", zero(0, api.Part{Coef: 1, Kind: api.PartDiv, By: 2, Of: []api.Term{{Parts: []api.Part{part(1<<19, 0)}}}}), api.OK},
	} {
		b := bind(t, s, "UPDATE t SET "+c.set)
		for _, f := range []api.Formula{c.f, {Kind: api.FormulaOr, Args: []api.Formula{{}, c.f}}} {
			if g, e := Before(f, b.Statement.Sets); e != c.want || e != api.OK && !reflect.DeepEqual(g, api.Formula{}) {
				t.Errorf("case %d: %s, %d", i, formula.Format(g), e)
			}
		}
	}
}

func TestBeforeExample(t *testing.T) {
	s := build(t, tables)
	b := bind(t, s, "UPDATE free SET x = y + 5, y = 0 WHERE x <= 6")
	f, _ := formula.WhenTrue(b.Statement.Where, b.Variables)
	g, e := Before(f, b.Statement.Sets)
	if e != api.OK || !formula.Holds(g, api.Row{value.Int(1), value.Int(1)}) || formula.Holds(g, api.Row{value.Int(1), value.Int(2)}) {
		t.Errorf("Before = %s, %d", formula.Format(g), e)
	}
}

func TestPossible(t *testing.T) {
	s := build(t, tables)
	for table, want := range []string{"TRUE", "((x0 IS NULL OR x0 - 3 <> 0) AND ((x0 IS NULL OR x1 IS NULL OR x0 + x1 - 5 <= 0) OR (x2 IS NULL OR x2 = 'x')))", "TRUE", "(x0 IS NULL OR -x0 + 3 <= 0)"} {
		if f, e := Possible(s[table]); e != api.OK || formula.Format(f) != want {
			t.Errorf("Possible of table %d: %s, %d", table, formula.Format(f), e)
		}
	}
	for _, r := range rows(s[1]) {
		if f, _ := Possible(s[1]); formula.Holds(f, r) != possible(s[1], r) {
			t.Fatalf("Possible for %s", value.FormatRow(r))
		}
	}
}

func TestRows(t *testing.T) {
	s := build(t, tables)
	every := rows(s[1])
	r := rand.New(rand.NewSource(53))
	for range 200 {
		text := "DELETE FROM t"
		if r.Intn(10) > 0 {
			text += " WHERE " + randomCondition(r)
		}
		b := bind(t, s, text)
		p, e := Rows(s, 1, b.Statement.Where)
		if e != api.OK || !predicate.Valid(p, 4) || p.Table != 1 || !slices.Equal(p.Variables, b.Variables) {
			t.Fatalf("%s: %v, %d", text, p, e)
		}
		for range 60 {
			row := every[r.Intn(len(every))]
			if predicate.Matches(p, row) != (possible(s[1], row) && evaluate.Matches(b.Statement.Where, row)) {
				t.Fatalf("%s: %s", text, value.FormatRow(row))
			}
		}
	}
}

func TestImage(t *testing.T) {
	s := build(t, tables)
	every := rows(s[1])
	r := rand.New(rand.NewSource(54))
	for range 150 {
		where := ""
		if r.Intn(10) > 0 {
			where = " WHERE " + randomCondition(r)
		}
		text := update(r, where)
		b := bind(t, s, text)
		p, e := Image(s, b)
		if e == api.ErrTooLarge {
			continue
		}
		if e != api.OK || !predicate.Valid(p, 4) || p.Table != 1 || len(p.Variables) != 4+len(b.Statement.Sets) {
			t.Fatalf("%s: %v, %d", text, p, e)
		}
		made := map[string]bool{}
		for _, row := range every {
			if possible(s[1], row) && evaluate.Matches(b.Statement.Where, row) {
				after, _ := Assign(s[1], b.Statement.Sets, row)
				made[value.FormatRow(after)] = true
			}
		}
		for range 60 {
			row := every[r.Intn(len(every))]
			got := predicate.Matches(p, row)
			want := possible(s[1], row) && made[value.FormatRow(row)]
			// A row can also be made from a row with a text that is not tried.
			if want && !got || got && (!possible(s[1], row) || !want && !mentionsText(text)) {
				t.Fatalf("%s: %s belongs to the image: %v", text, value.FormatRow(row), got)
			}
		}
	}
}

func mentionsText(s string) bool { return strings.ContainsAny(s, "su") }

func TestImageExactly(t *testing.T) {
	s := build(t, tables)
	for text, want := range map[string]func(x, y int64) bool{
		"UPDATE free SET x = y + 5, y = 0 WHERE x = 1": func(x, y int64) bool { return x >= 5 && y == 0 },
		"UPDATE free SET x = x + 1":                    func(x, y int64) bool { return x >= 1 },
		"UPDATE free SET y = x, x = y WHERE x = 2":     func(x, y int64) bool { return y == 2 },
		"UPDATE free SET x = x WHERE x > y":            func(x, y int64) bool { return x > y },
		"UPDATE free SET y = x / 3 WHERE x < 7":        func(x, y int64) bool { return x < 7 && y == x/3 },
		"UPDATE free SET x = 10":                       func(x, y int64) bool { return false },
		"UPDATE free SET x = 2 * x WHERE NULL":         func(x, y int64) bool { return false },
	} {
		p, e := Image(s, bind(t, s, text))
		if e != api.OK {
			t.Fatalf("%s: %d", text, e)
		}
		for x := range int64(10) {
			for y := range int64(10) {
				if predicate.Matches(p, api.Row{value.Int(x), value.Int(y)}) != want(x, y) {
					t.Errorf("%s: (%d, %d)", text, x, y)
				}
			}
		}
	}
	p, _ := Image(s, bind(t, s, "UPDATE free SET x = NULL, y = y + 1 WHERE x = 4"))
	if !predicate.Matches(p, api.Row{{}, value.Int(1)}) || !predicate.Matches(p, api.Row{{}, {}}) || predicate.Matches(p, api.Row{{}, value.Int(0)}) || predicate.Matches(p, api.Row{value.Int(4), value.Int(1)}) {
		t.Error("an image with NULL")
	}
	p, _ = Image(s, bind(t, s, "UPDATE single SET x = x - 2"))
	for x := range int64(10) {
		if predicate.Matches(p, api.Row{value.Int(x)}) != (x >= 3 && x <= 7) {
			t.Errorf("the image with a check: %d", x)
		}
	}
}

// Without assignments that change anything, the image is the set of the rows.
func TestIdentity(t *testing.T) {
	s := build(t, tables)
	every := rows(s[1])
	for _, c := range conditions {
		b := bind(t, s, "UPDATE t SET a = a, s = s, b = b WHERE "+c)
		p, e1 := Image(s, b)
		q, e2 := Rows(s, 1, b.Statement.Where)
		if e1 == api.ErrTooLarge {
			continue
		}
		if e1 != api.OK || e2 != api.OK {
			t.Fatalf("%s: %d, %d", c, e1, e2)
		}
		for i, row := range every {
			if i%7 == 0 && predicate.Matches(p, row) != predicate.Matches(q, row) {
				t.Fatalf("%s: %s", c, value.FormatRow(row))
			}
		}
	}
}

func TestErrors(t *testing.T) {
	wide := "(a = 1 OR a = 2 OR a = 3 OR a = 4 OR a = 5 OR a = 6 OR a = 7 OR a = 8) AND (b = 1 OR b = 2 OR b = 3 OR b = 4 OR b = 5 OR b = 6 OR b = 7 OR b = 8)"
	s := build(t, "CREATE TABLE t (a INTEGER, b INTEGER, CHECK (a > 0)); CREATE TABLE u (a INTEGER, CHECK (a < 1048576 * 1048576 + 1048576 * 1048576 * NULL OR a < -(1048576 * 1048576)));")
	if f, e := Possible(s[1]); e != api.ErrTooLarge || !reflect.DeepEqual(f, api.Formula{}) {
		t.Errorf("Possible: %s, %d", formula.Format(f), e)
	}
	if p, e := Rows(s, 1, api.Expr{}); e != api.ErrTooLarge || !reflect.DeepEqual(p, api.Predicate{}) {
		t.Errorf("Rows: %v, %d", p, e)
	}
	if p, e := Image(s, bind(t, s, "UPDATE u SET a = 1")); e != api.ErrTooLarge || !reflect.DeepEqual(p, api.Predicate{}) {
		t.Errorf("Image: %v, %d", p, e)
	}
	for text, want := range map[string]api.Errno{
		"UPDATE t SET a = 1 WHERE " + wide: api.OK, "UPDATE t SET b = 1 WHERE " + wide + " AND (a < b OR b < a)": api.ErrTooLarge, "UPDATE t SET a = 1 WHERE a < -(1048576 * 1048576)": api.ErrTooLarge, "UPDATE t SET a = b + 1, b = 3 WHERE a = 5": api.OK,
		"UPDATE t SET a = b, b = a + 1048576 * 1048575": api.OK, "UPDATE t SET a = 1 WHERE a <> 1 AND a <> 2 AND a <> 3 AND a <> 4 AND a <> 5 AND b <> 1": api.OK, "UPDATE t SET a = 1 WHERE a <> 1 AND a <> 2 AND a <> 3 AND a <> 4 AND a <> 5 AND b <> 1 AND b <> 2": api.ErrTooLarge, "UPDATE t SET b = a + 1048576 * 1048576": api.OK, "UPDATE t SET b = 1 WHERE b + 1048576 * 1048576 < 0": api.ErrTooLarge,
	} {
		p, e := Image(s, bind(t, s, text))
		if e != want || e != api.OK && !reflect.DeepEqual(p, api.Predicate{}) {
			t.Errorf("%.60s: %d", text, e)
		}
	}
	b := bind(t, s, "DELETE FROM t WHERE "+wide+" AND (a < b OR b < a)")
	if p, e := Rows(s, 0, b.Statement.Where); e != api.OK || len(p.Clauses) > 256 {
		t.Errorf("Rows: %d clauses, %d", len(p.Clauses), e)
	}
	b = bind(t, s, "DELETE FROM t WHERE "+wide+" AND (a < b OR b < a OR a > 1)")
	if p, e := Rows(s, 0, b.Statement.Where); e != api.ErrTooLarge || !reflect.DeepEqual(p, api.Predicate{}) {
		t.Errorf("Rows: %d clauses, %d", len(p.Clauses), e)
	}
}
