package footprint

import (
	"math/rand"
	"reflect"
	"slices"
	"strconv"
	"strings"
	"testing"

	"disjoint/api"
	"disjoint/binder"
	"disjoint/copies"
	"disjoint/evaluate"
	"disjoint/image"
	"disjoint/parser"
	"disjoint/predicate"
	"disjoint/schema"
	"disjoint/value"
)

func build(t *testing.T, s string) api.Schema {
	t.Helper()
	l, offset, e := parser.Script(s)
	if e != api.OK {
		t.Fatalf("%q: %d at %d", s, e, offset)
	}
	x, _, e := schema.Build(l)
	if e != api.OK {
		t.Fatalf("%q: %d", s, e)
	}
	x, e = binder.Schema(x)
	if e != api.OK {
		t.Fatalf("%q: %d", s, e)
	}
	return x
}

func bind(t *testing.T, s api.Schema, text string) api.Bound {
	t.Helper()
	st, offset, e := parser.Statement(text)
	if e != api.OK {
		t.Fatalf("%q: %d at %d", text, e, offset)
	}
	b, e := binder.Bind(s, st)
	if e != api.OK {
		t.Fatalf("%q: %d", text, e)
	}
	return b
}

func statement(t *testing.T, s api.Schema, text string) []api.Access {
	t.Helper()
	l, e := Statement(s, bind(t, s, text))
	if e != api.OK {
		t.Fatalf("%s: %d", text, e)
	}
	checkValid(t, s, l)
	return l
}

func checkValid(t *testing.T, s api.Schema, l []api.Access) {
	t.Helper()
	for _, a := range l {
		columns := schema.Variables(s[a.Predicate.Table])
		if !predicate.Valid(a.Predicate, len(columns)) || !slices.Equal(a.Predicate.Variables[:len(columns)], columns) {
			t.Fatalf("the predicate %v is not valid", a.Predicate)
		}
	}
}

const small = `
CREATE TABLE t (a INTEGER(0, 3), b INTEGER(0, 2) NOT NULL, CHECK (a <> 3 OR b = 0));
CREATE TABLE u (k INTEGER(0, 3), s TEXT(1));`

// rows are all possible rows of a table, with only some of the texts.
func rows(t api.Table) []api.Row {
	l := []api.Row{nil}
	for _, x := range schema.Variables(t) {
		var values []api.Value
		if x.Type == api.Text {
			values = append(values, value.Text(""), value.Text("x"))
		}
		for n := x.Low; n <= x.High && x.Type == api.Integer; n++ {
			values = append(values, value.Int(n))
		}
		if x.Nullable {
			values = append(values, api.Value{})
		}
		var longer []api.Row
		for _, r := range l {
			for _, v := range values {
				longer = append(longer, append(slices.Clone(r), v))
			}
		}
		l = longer
	}
	return slices.DeleteFunc(l, func(r api.Row) bool { return !possible(t, r) })
}

var conditions = []string{"a = 1", "a < b", "a % 2 = 0", "b <> 1", "a IS NULL", "a + b = 3", "NULL", "b = 0 OR a = 2", "NOT a = b", "a > 1"}

var changes = []string{"UPDATE t SET a = a + 1", "UPDATE t SET b = a, a = b", "UPDATE t SET a = NULL", "UPDATE t SET b = 2 - b", "UPDATE t SET a = 2", "DELETE FROM t", "UPDATE t SET a = b + 2, b = 0"}

func randomStatement(r *rand.Rand) string {
	where := ""
	if r.Intn(8) > 0 {
		where = " WHERE " + conditions[r.Intn(len(conditions))]
		if r.Intn(3) == 0 {
			where += " AND " + conditions[r.Intn(len(conditions)-3)]
		}
	}
	switch r.Intn(4) {
	case 0:
		return "SELECT * FROM t" + where
	case 1:
		a := []string{"NULL", "0", "1", "2", "3", "4"}
		return "INSERT INTO t VALUES (" + a[r.Intn(6)] + ", " + strconv.Itoa(r.Intn(4)) + "), (" + a[r.Intn(3)] + ", 1)"
	}
	return changes[r.Intn(len(changes))] + where
}

// execute returns the outcome of a statement as a text, its changes, and the rows afterwards.
func execute(s api.Schema, b api.Bound, db []api.Row) (string, []api.Change, []api.Row) {
	var result []string
	var l []api.Change
	var after []api.Row
	for _, r := range db {
		hit := b.Statement.Kind != api.StmtInsert && evaluate.Matches(b.Statement.Where, r)
		switch {
		case hit && b.Statement.Kind == api.StmtSelect:
			result = append(result, value.FormatRow(r))
		case hit && b.Statement.Kind == api.StmtDelete:
			l = append(l, api.Change{Old: r})
			continue
		case hit:
			n, _ := image.Assign(s[0], b.Statement.Sets, r)
			l = append(l, api.Change{Old: r, New: n})
			after = append(after, n)
			continue
		}
		after = append(after, r)
	}
	for _, r := range b.Rows {
		l = append(l, api.Change{New: r})
		after = append(after, r)
	}
	worst := api.Errno(99)
	for _, c := range l {
		if c.New != nil && !possible(s[0], c.New) {
			e := schema.Fits(s[0], c.New)
			if e == api.OK {
				e = api.ErrCheck
			}
			worst = min(worst, e)
		}
	}
	if worst < 99 {
		return worst.Error(), nil, db
	}
	slices.Sort(result)
	return strings.Join(result, "") + strconv.Itoa(len(l)), l, after
}

func bagOf(l []api.Row) string {
	var texts []string
	for _, r := range l {
		texts = append(texts, value.FormatRow(r))
	}
	slices.Sort(texts)
	return strings.Join(texts, " ")
}

// covered reports whether a row belongs to an access, which writes if write is set.
func covered(l []api.Access, write bool, r api.Row) bool {
	return slices.ContainsFunc(l, func(a api.Access) bool { return (a.Write || !write) && predicate.Matches(a.Predicate, r) })
}

// What a statement reads, changes and makes belongs to its footprint, and what it has changed to the reduced one.
func TestCoverage(t *testing.T) {
	s := build(t, small)
	every := rows(s[0])
	r := rand.New(rand.NewSource(55))
	for range 300 {
		b := bind(t, s, randomStatement(r))
		before, e := Statement(s, b)
		if e != api.OK {
			t.Fatal(e)
		}
		db := []api.Row{every[r.Intn(len(every))], every[r.Intn(len(every))], every[r.Intn(len(every))]}
		_, l, _ := execute(s, b, db)
		after, e := After(s, b, l)
		if e != api.OK {
			t.Fatal(e)
		}
		checkValid(t, s, after)
		for _, c := range l {
			same := slices.Equal(c.Old, c.New)
			for _, x := range []api.Row{c.Old, c.New} {
				if x != nil && (!covered(before, true, x) || !same && !covered(after, true, x)) {
					t.Fatalf("%v does not cover the change %v", b.Statement, c)
				}
			}
		}
		for _, x := range every {
			hit := b.Statement.Kind != api.StmtInsert && evaluate.Matches(b.Statement.Where, x)
			if hit && (!covered(before, false, x) || !covered(after, false, x)) {
				t.Fatalf("%v does not cover the row %s", b.Statement, value.FormatRow(x))
			}
			if covered(after, true, x) && !covered(before, true, x) || covered(after, false, x) && !covered(before, false, x) {
				t.Fatalf("the reduced accesses of %v are more", b.Statement)
			}
			if b.Statement.Kind == api.StmtDelete && covered(before, true, x) != hit {
				t.Fatalf("%v writes %s", b.Statement, value.FormatRow(x))
			}
		}
		checkValid(t, s, append(Changes(s, l), Constraints(s, l)...))
	}
}

// Statements whose footprints do not conflict commute in every database.
func TestCommuting(t *testing.T) {
	s := build(t, small)
	every := rows(s[0])
	r := rand.New(rand.NewSource(56))
	count := map[bool]int{}
	for range 1500 {
		b, c := bind(t, s, randomStatement(r)), bind(t, s, randomStatement(r))
		x, e1 := Statement(s, b)
		y, e2 := Statement(s, c)
		if e1 != api.OK || e2 != api.OK {
			t.Fatal("too large")
		}
		ok, w := Commute(x, y)
		count[ok]++
		if back, _ := Commute(y, x); back != ok {
			t.Fatal("Commute is not symmetric")
		}
		if !ok {
			if w.Txn != 0 || w.Table != 0 || !(covered(x, true, w.Row) && covered(y, false, w.Row) || covered(x, false, w.Row) && covered(y, true, w.Row)) {
				t.Fatalf("%v and %v: the reason is %v", b.Statement, c.Statement, w)
			}
			continue
		}
		if w.Row != nil || w.Table != 0 || w.Txn != 0 {
			t.Fatalf("a reason of statements that commute: %v", w)
		}
		for range 10 {
			var db []api.Row
			for range r.Intn(5) {
				db = append(db, every[r.Intn(len(every))])
			}
			first, _, middle := execute(s, b, db)
			second, _, end := execute(s, c, middle)
			second2, _, middle2 := execute(s, c, db)
			first2, _, end2 := execute(s, b, middle2)
			if first != first2 || second != second2 || bagOf(end) != bagOf(end2) {
				t.Fatalf("%v and %v do not commute on %s", b.Statement, c.Statement, bagOf(db))
			}
		}
	}
	if count[true] < 100 || count[false] < 100 {
		t.Errorf("counts: %v", count)
	}
}

func TestSelect(t *testing.T) {
	s := build(t, small)
	l := statement(t, s, "SELECT * FROM u AS x, t, u AS y WHERE x.k = t.a AND t.b < y.k AND y.s = 'x'")
	if len(l) != 3 || l[0].Write || l[1].Write || l[2].Write || l[0].Predicate.Table != 1 || l[1].Predicate.Table != 0 || l[2].Predicate.Table != 1 {
		t.Fatalf("accesses: %v", l)
	}
	vu, vt := schema.Variables(s[1]), schema.Variables(s[0])
	for i, want := range [][]api.Variable{slices.Concat(vu, vt, vu), slices.Concat(vt, vu, vu), slices.Concat(vu, vu, vt)} {
		if !slices.Equal(l[i].Predicate.Variables, want) {
			t.Errorf("the variables of access %d are %v", i, l[i].Predicate.Variables)
		}
	}
	for _, r := range rows(s[1]) {
		k, text := r[0], r[1]
		// x.k is a possible value of a, with some b for which there is a greater k.
		if predicate.Matches(l[0].Predicate, r) != (k.Kind == api.Integer) {
			t.Errorf("the first source and %s", value.FormatRow(r))
		}
		if predicate.Matches(l[2].Predicate, r) != (k.Kind == api.Integer && k.Int > 0 && text == value.Text("x")) {
			t.Errorf("the third source and %s", value.FormatRow(r))
		}
	}
	for _, r := range rows(s[0]) {
		if predicate.Matches(l[1].Predicate, r) != (r[0].Kind == api.Integer) {
			t.Errorf("the second source and %s", value.FormatRow(r))
		}
	}
	if predicate.Matches(l[1].Predicate, api.Row{value.Int(3), value.Int(1)}) {
		t.Error("a row that is not possible is read")
	}
	// If no row of another source is possible, no row is read.
	none := build(t, "CREATE TABLE t (a INTEGER(0, 3), CHECK (a IS NULL AND a IS NOT NULL)); CREATE TABLE u (k INTEGER(0, 3));")
	l = statement(t, none, "SELECT * FROM u, t")
	if !predicate.Empty(l[0].Predicate) || !predicate.Empty(l[1].Predicate) || len(l) != 2 {
		t.Error("rows of u are read, although t has none")
	}
}

func TestInsert(t *testing.T) {
	s := build(t, small)
	l := statement(t, s, "INSERT INTO t VALUES (1, 2), (3, 1), (9, 0), (NULL, NULL), (NULL, 0)")
	if len(l) != 5 {
		t.Fatalf("accesses: %v", l)
	}
	for i, r := range []api.Row{{value.Int(1), value.Int(2)}, nil, nil, nil, {{}, value.Int(0)}} {
		p := l[i].Predicate
		if !l[i].Write || p.Table != 0 || (r == nil) != predicate.Empty(p) || r != nil && (!predicate.Matches(p, r) || predicate.Matches(p, api.Row{value.Int(0), value.Int(0)})) {
			t.Errorf("access %d: %v", i, l[i])
		}
	}
}

func TestUpdateAndDelete(t *testing.T) {
	s := build(t, small)
	l := statement(t, s, "UPDATE t SET a = b WHERE a = 0")
	if len(l) != 2 || !l[0].Write || !l[1].Write || len(l[0].Predicate.Variables) != 2 || len(l[1].Predicate.Variables) != 3 {
		t.Fatalf("accesses: %v", l)
	}
	b := bind(t, s, "UPDATE t SET a = b WHERE a = 0")
	after, e := After(s, b, []api.Change{{Old: api.Row{value.Int(0), value.Int(1)}, New: api.Row{value.Int(1), value.Int(1)}}, {Old: api.Row{value.Int(0), value.Int(0)}, New: api.Row{value.Int(0), value.Int(0)}}})
	if e != api.OK || len(after) != 3 || after[0].Write || !after[1].Write || !after[2].Write || !reflect.DeepEqual(after[0].Predicate, l[0].Predicate) {
		t.Errorf("After = %v, %d", after, e)
	}
	if l = statement(t, s, "DELETE FROM t WHERE a = 9"); len(l) != 1 || !l[0].Write || !predicate.Empty(l[0].Predicate) {
		t.Errorf("accesses: %v", l)
	}
	if after, e = After(s, bind(t, s, "DELETE FROM t"), nil); e != api.OK || len(after) != 1 || after[0].Write {
		t.Errorf("After = %v, %d", after, e)
	}
	if after, e = After(s, bind(t, s, "INSERT INTO t VALUES (0, 0)"), nil); e != api.OK || len(after) != 0 {
		t.Errorf("After = %v, %d", after, e)
	}
	b = bind(t, s, "SELECT * FROM t, u WHERE a = k")
	before, _ := Statement(s, b)
	if after, e = After(s, b, nil); e != api.OK || !reflect.DeepEqual(after, before) {
		t.Errorf("After = %v, %d", after, e)
	}
}

func TestChanges(t *testing.T) {
	s := build(t, small)
	one, two := api.Row{value.Int(1), value.Int(1)}, api.Row{value.Int(2), value.Int(1)}
	l := Changes(s, []api.Change{{New: one}, {Old: one, New: one}, {Old: one, New: two}, {Table: 1, Old: api.Row{{}, value.Text("x")}, New: api.Row{}}})
	if len(l) != 4 {
		t.Fatalf("accesses: %v", l)
	}
	for i, r := range []api.Row{one, one, two, {{}, value.Text("x")}} {
		if want := predicate.Exactly(i/3, schema.Variables(s[i/3]), r); !l[i].Write || !reflect.DeepEqual(l[i].Predicate, want) {
			t.Errorf("access %d: %v", i, l[i])
		}
	}
}

const keys = `
CREATE TABLE a (x INTEGER(0, 9), y TEXT(2), z INTEGER(0, 9), UNIQUE (x), UNIQUE (z, y), UNIQUE (z));
CREATE TABLE b (p INTEGER(0, 5), q TEXT(1), r INTEGER(0, 99), UNIQUE (p), FOREIGN KEY (r) REFERENCES a (x), FOREIGN KEY (p, q) REFERENCES a (z, y), FOREIGN KEY (p) REFERENCES b (p), FOREIGN KEY (p) REFERENCES a (x));`

func TestConstraints(t *testing.T) {
	s := build(t, keys)
	rowA := func(x, z int64, y string) api.Row { return api.Row{value.Int(x), value.Text(y), value.Int(z)} }
	null := api.Value{}
	for i, c := range []struct {
		c    api.Change
		want string // for each access: table, columns, values
	}{
		{api.Change{Table: 0, New: rowA(1, 2, "u")}, "a.x=1 a.z=2,y='u' a.z=2"},
		{api.Change{Table: 0, Old: rowA(1, 2, "u")}, "a.x=1 b.r=1 b.p=1 a.z=2,y='u' b.p=2,q='u'"},
		{api.Change{Table: 0, Old: rowA(1, 2, "u"), New: rowA(1, 2, "u")}, ""},
		{api.Change{Table: 0, Old: rowA(1, 2, "u"), New: rowA(3, 2, "u")}, "a.x=3 a.x=1 b.r=1 b.p=1"},
		{api.Change{Table: 0, Old: rowA(1, 2, "u"), New: rowA(1, 2, "v")}, "a.z=2,y='v' a.z=2,y='u' b.p=2,q='u'"},
		{api.Change{Table: 0, Old: rowA(1, 2, "u"), New: api.Row{null, value.Text("u"), null}}, "a.x=1 b.r=1 b.p=1 a.z=2,y='u' b.p=2,q='u'"},
		{api.Change{Table: 0, Old: api.Row{null, null, value.Int(2)}, New: rowA(1, 2, "u")}, "a.x=1 a.z=2,y='u'"},
		{api.Change{Table: 0, New: api.Row{null, null, null}}, ""},
		{api.Change{Table: 1, New: api.Row{value.Int(1), value.Text("u"), value.Int(50)}}, "b.p=1 a.x=50 a.z=1,y='u' b.p=1 a.x=1"},
		{api.Change{Table: 1, New: api.Row{value.Int(1), null, null}}, "b.p=1 b.p=1 a.x=1"},
		{api.Change{Table: 1, Old: api.Row{value.Int(1), value.Text("u"), value.Int(50)}}, "b.p=1 b.p=1"},
		{api.Change{Table: 1, Old: api.Row{value.Int(1), value.Text("u"), value.Int(50)}, New: api.Row{value.Int(1), value.Text("w"), value.Int(50)}}, "a.z=1,y='w'"},
	} {
		l := Constraints(s, []api.Change{c.c})
		checkValid(t, s, l)
		want := strings.Fields(c.want)
		if len(l) != len(want) {
			t.Errorf("case %d: %d accesses, want %d", i, len(l), len(want))
			continue
		}
		for k, w := range want {
			if l[k].Write || !readsKey(t, s, l[k].Predicate, w) {
				t.Errorf("case %d: access %d is %v, want %s", i, k, l[k], w)
			}
		}
	}
	two := Constraints(s, []api.Change{{New: rowA(1, 2, "u")}, {Table: 1, New: api.Row{value.Int(1), null, null}}})
	if len(two) != 6 || two[0].Predicate.Table != 0 || two[5].Predicate.Table != 0 || two[3].Predicate.Table != 1 {
		t.Errorf("two changes: %v", two)
	}
}

// readsKey reports whether a predicate consists of the rows with a key value, described as in a.x=1,y='u'.
func readsKey(t *testing.T, s api.Schema, p api.Predicate, key string) bool {
	t.Helper()
	name, conditions, _ := strings.Cut(key, ".")
	number, _ := schema.Find(s, name)
	e, _, err := parser.Expression(strings.ReplaceAll(conditions, ",", " AND "))
	if err != api.OK {
		t.Fatalf("%q: %d", conditions, err)
	}
	bound, _, _ := binder.Check(s[number], e)
	if p.Table != number {
		return false
	}
	for _, r := range keyRows(s[number]) {
		if predicate.Matches(p, r) != (evaluate.Condition(bound, r) == api.True) {
			return false
		}
	}
	return true
}

func keyRows(t api.Table) []api.Row {
	var l []api.Row
	variables := schema.Variables(t)
	ints := []api.Value{{}, value.Int(1), value.Int(2), value.Int(3), value.Int(50)}
	texts := []api.Value{{}, value.Text("u"), value.Text("v"), value.Text("w")}
	pick := func(x api.Variable) []api.Value {
		if x.Type == api.Text {
			return texts
		}
		return ints
	}
	for _, a := range pick(variables[0]) {
		for _, b := range pick(variables[1]) {
			for _, c := range pick(variables[2]) {
				if r := (api.Row{a, b, c}); schema.Fits(t, r) == api.OK {
					l = append(l, r)
				}
			}
		}
	}
	return l
}

// A key value outside of the domain of a referring column is that of no row.
func TestConstraintsOutsideOfDomains(t *testing.T) {
	s := build(t, keys)
	l := Constraints(s, []api.Change{{Old: api.Row{value.Int(9), {}, {}}}})
	if len(l) != 3 || predicate.Empty(l[0].Predicate) || predicate.Empty(l[1].Predicate) || !predicate.Empty(l[2].Predicate) {
		t.Errorf("accesses: %v", l)
	}
	// Checks are not examined.
	s = build(t, "CREATE TABLE t (x INTEGER(0, 9), UNIQUE (x), CHECK (x > 5));")
	if l = Constraints(s, []api.Change{{New: api.Row{value.Int(1)}}}); len(l) != 1 || !predicate.Matches(l[0].Predicate, api.Row{value.Int(1)}) {
		t.Errorf("accesses: %v", l)
	}
}

func TestExamples(t *testing.T) {
	s := build(t, "CREATE TABLE account (id INTEGER(0, 1000), balance INTEGER(0, 1000), name TEXT(16), UNIQUE (id));")
	for _, c := range []struct {
		a, b string
		want bool
	}{
		{"UPDATE account SET balance = balance - 10 WHERE id = 7", "SELECT SUM(balance) FROM account WHERE id > 100", true}, {"DELETE FROM account WHERE id % 2 = 0", "SELECT * FROM account WHERE id % 2 = 1", true}, {"SELECT * FROM account WHERE name LIKE 'a%'", "INSERT INTO account VALUES (1, 2, 'adam')", false}, {"SELECT * FROM account WHERE name LIKE 'a%'", "INSERT INTO account VALUES (1, 2, 'bob')", true}, {"SELECT * FROM account", "SELECT * FROM account", true}, {"UPDATE account SET balance = balance + 1 WHERE balance < 5", "SELECT * FROM account WHERE balance = 5", false}, {"UPDATE account SET balance = balance + 1 WHERE balance < 5", "SELECT * FROM account WHERE balance = 6", true}, {"DELETE FROM account WHERE NULL", "DELETE FROM account", true},
	} {
		if ok, _ := Commute(statement(t, s, c.a), statement(t, s, c.b)); ok != c.want {
			t.Errorf("%s and %s: %v", c.a, c.b, ok)
		}
	}
	if ok, w := Commute(nil, statement(t, s, "DELETE FROM account")); !ok || w.Row != nil {
		t.Error("no accesses conflict")
	}
}

func TestErrors(t *testing.T) {
	s := build(t, "CREATE TABLE t (a INTEGER, b INTEGER, CHECK (a > 0)); CREATE TABLE u (a INTEGER, CHECK (a < -(1048576 * 1048576)));")
	wide := " WHERE (a = 1 OR a = 2 OR a = 3 OR a = 4 OR a = 5 OR a = 6 OR a = 7 OR a = 8) AND (b = 1 OR b = 2 OR b = 3 OR b = 4 OR b = 5 OR b = 6 OR b = 7 OR b = 8)"
	for text, want := range map[string][2]api.Errno{
		"SELECT * FROM t" + wide: {api.OK, api.OK}, "SELECT * FROM t" + wide + " AND (a > b OR a < b OR a > 5)": {api.ErrTooLarge, api.ErrTooLarge}, "DELETE FROM t" + wide + " AND (a > b OR a < b OR a > 5)": {api.ErrTooLarge, api.ErrTooLarge}, "DELETE FROM t" + wide + " AND (a > b OR a < b)": {api.OK, api.OK}, "UPDATE t SET a = 1" + wide + " AND (a > b OR a < b)": {api.ErrTooLarge, api.OK}, "UPDATE t SET a = 1" + wide: {api.OK, api.OK}, "UPDATE t SET a = 1" + wide + " AND (a > b OR a < b OR a > 5)": {api.ErrTooLarge, api.ErrTooLarge},
		"SELECT * FROM u": {api.ErrTooLarge, api.ErrTooLarge}, "SELECT * FROM t, u AS x WHERE t.a = 1": {api.ErrTooLarge, api.ErrTooLarge}, "DELETE FROM u": {api.ErrTooLarge, api.ErrTooLarge}, "SELECT * FROM t WHERE a < -(1048576 * 1048576)": {api.ErrTooLarge, api.ErrTooLarge}, "INSERT INTO u VALUES (1)": {api.OK, api.OK},
	} {
		b := bind(t, s, text)
		kept := copies.Statement(b.Statement)
		l, e := Statement(s, b)
		m, e2 := After(s, b, nil)
		if e != want[0] || e != api.OK && l != nil || e2 != want[1] || e2 != api.OK && m != nil {
			t.Errorf("%.60s: %d, %d", text, e, e2)
		}
		if !reflect.DeepEqual(b.Statement, kept) {
			t.Error("the statement is changed")
		}
	}
}
