package binder

import (
	"reflect"
	"slices"
	"testing"

	"disjoint/api"
	"disjoint/ast"
	"disjoint/copies"
	"disjoint/linear"
	"disjoint/parser"
	"disjoint/schema"
	"disjoint/value"
)

const tables = `
CREATE TABLE t (a INTEGER(0, 9), b TEXT(5) NOT NULL, CHECK (a < 5 OR b = 'x'), CHECK (NULL));
CREATE TABLE u (c INTEGER, a INTEGER, d TEXT);`

func unbound(t *testing.T, s string) api.Schema {
	t.Helper()
	l, _, e := parser.Script(s)
	if e != api.OK {
		t.Fatalf("%q: %d", s, e)
	}
	x, _, e := schema.Build(l)
	if e != api.OK {
		t.Fatalf("%q: %d", s, e)
	}
	return x
}

func bound(t *testing.T) api.Schema {
	t.Helper()
	s, e := Schema(unbound(t, tables))
	if e != api.OK {
		t.Fatal(e)
	}
	return s
}

func statement(t *testing.T, s string) api.Statement {
	t.Helper()
	st, offset, e := parser.Statement(s)
	if e != api.OK {
		t.Fatalf("%q: %d at %d", s, e, offset)
	}
	return st
}

func expression(t *testing.T, s string) api.Expr {
	t.Helper()
	x, offset, e := parser.Expression(s)
	if e != api.OK {
		t.Fatalf("%q: %d at %d", s, e, offset)
	}
	return x
}

func indexes(e api.Expr) []int {
	var l []int
	for _, c := range ast.Columns(e) {
		l = append(l, c.Index)
	}
	return l
}

func mustBind(t *testing.T, s api.Schema, text string) api.Bound {
	t.Helper()
	b, e := Bind(s, statement(t, text))
	if e != api.OK {
		t.Fatalf("%q: %d", text, e)
	}
	return b
}

func TestInsert(t *testing.T) {
	s := bound(t)
	b := mustBind(t, s, "INSERT INTO t VALUES (1 + 2, 'x'), (NULL, NULL), (-7 / 2, 'y'), (LENGTH('abc'), 'long text')")
	want := []api.Row{{value.Int(3), value.Text("x")}, {{}, {}}, {value.Int(-4), value.Text("y")}, {value.Int(3), value.Text("long text")}}
	if !reflect.DeepEqual(b.Rows, want) || b.Table != 0 || !slices.Equal(b.Tables, []int{0}) || !slices.Equal(b.Variables, schema.Variables(s[0])) {
		t.Errorf("bound: %v", b)
	}
	if !ast.Equal(b.Statement, statement(t, "INSERT INTO t VALUES (1 + 2, 'x'), (NULL, NULL), (-7 / 2, 'y'), (LENGTH('abc'), 'long text')")) {
		t.Error("the statement is another one")
	}
}

func TestUpdateAndDelete(t *testing.T) {
	s := bound(t)
	b := mustBind(t, s, "UPDATE u SET d = 'x', c = a - c WHERE u.d = d AND a IS NULL")
	if b.Table != 1 || !slices.Equal(b.Tables, []int{1}) || !slices.Equal(b.Variables, schema.Variables(s[1])) || b.Rows != nil {
		t.Errorf("bound: %v", b)
	}
	sets := b.Statement.Sets
	if sets[0].Index != 2 || sets[1].Index != 0 || !slices.Equal(indexes(sets[1].Expr), []int{1, 0}) || !slices.Equal(indexes(b.Statement.Where), []int{2, 2, 1}) {
		t.Errorf("bound: %v", b.Statement)
	}
	b = mustBind(t, s, "DELETE FROM u WHERE a = 1")
	if b.Table != 1 || !slices.Equal(b.Tables, []int{1}) || !slices.Equal(b.Variables, schema.Variables(s[1])) || !slices.Equal(indexes(b.Statement.Where), []int{1}) {
		t.Errorf("bound: %v", b)
	}
	if b = mustBind(t, s, "DELETE FROM t WHERE NULL"); b.Table != 0 {
		t.Errorf("bound: %v", b)
	}
}

func TestSelect(t *testing.T) {
	s := bound(t)
	b := mustBind(t, s, "SELECT x.a, d, COUNT(*), SUM(c + y.a), MIN(x.b), MAX(NULL) FROM t AS x, u, t AS y WHERE x.a = u.a AND y.b = x.b GROUP BY x.a, y.b, d ORDER BY 6, 1 DESC")
	variables := slices.Concat(schema.Variables(s[0]), schema.Variables(s[1]), schema.Variables(s[0]))
	if b.Table != 0 || !slices.Equal(b.Tables, []int{0, 1, 0}) || !slices.Equal(b.Variables, variables) {
		t.Errorf("bound: %v", b)
	}
	st := b.Statement
	if st.Items[0].Expr.Index != 0 || st.Items[1].Expr.Index != 4 || !slices.Equal(indexes(st.Items[3].Expr), []int{2, 5}) || !slices.Equal(indexes(st.Where), []int{0, 3, 6, 1}) || st.Group[0].Index != 0 || st.Group[1].Index != 6 || st.Group[2].Index != 4 {
		t.Errorf("bound: %v", st)
	}
	if b = mustBind(t, s, "SELECT * FROM u ORDER BY 3"); !slices.Equal(b.Tables, []int{1}) {
		t.Errorf("bound: %v", b)
	}
}

func TestOtherStatements(t *testing.T) {
	s := bound(t)
	for _, text := range []string{"BEGIN", "COMMIT", "ROLLBACK", "SAVEPOINT a", "ROLLBACK TO a", "RELEASE a"} {
		b := mustBind(t, s, text)
		if want := (api.Bound{Statement: statement(t, text)}); !reflect.DeepEqual(b, want) {
			t.Errorf("%s: %v", text, b)
		}
	}
}

func TestErrors(t *testing.T) {
	s := bound(t)
	for text, want := range map[string]api.Errno{
		"CREATE TABLE x (a INTEGER)": api.ErrState,
		"INSERT INTO x VALUES (1)":   api.ErrNotFound, "INSERT INTO t VALUES (1)": api.ErrInvalid, "INSERT INTO t VALUES (1, 'x', 2)": api.ErrInvalid, "INSERT INTO t VALUES (a, 'x')": api.ErrNotFound, "INSERT INTO t VALUES ('x', 'x')": api.ErrType, "INSERT INTO t VALUES (1, 1)": api.ErrType, "INSERT INTO t VALUES (1 = 1, 'x')": api.ErrType, "INSERT INTO t VALUES (1, 'x'), (1)": api.ErrInvalid, "INSERT INTO t VALUES ('x', a)": api.ErrType, "INSERT INTO t VALUES (1 / 0, 'x')": api.ErrUnsupported, "INSERT INTO t VALUES (1000000 * 2000000, 'x')": api.ErrTooLarge, "INSERT INTO t VALUES ('x', 1), (1)": api.ErrType,
		"UPDATE x SET a = 1": api.ErrNotFound, "UPDATE t SET c = 1": api.ErrNotFound, "UPDATE t SET a = 1, a = 'x'": api.ErrExists, "UPDATE t SET a = c": api.ErrNotFound, "UPDATE t SET a = b": api.ErrType, "UPDATE t SET b = a": api.ErrType, "UPDATE t SET a = a = 1": api.ErrType, "UPDATE t SET a = 1 WHERE a": api.ErrType, "UPDATE t SET a = 1 WHERE c = 1": api.ErrNotFound, "UPDATE t SET a = b, a = 1": api.ErrType, "UPDATE t SET a = b WHERE c": api.ErrType, "UPDATE t SET a = 1, c = b": api.ErrNotFound, "UPDATE t SET a = u.a": api.ErrNotFound, "UPDATE t SET b = 'x', b = c": api.ErrExists,
		"DELETE FROM x": api.ErrNotFound, "DELETE FROM t WHERE b": api.ErrType, "DELETE FROM t WHERE 1": api.ErrType, "DELETE FROM t WHERE a * a = 1": api.ErrUnsupported,
		"SELECT * FROM t, u, t AS v, t AS w": api.ErrTooLarge, "SELECT * FROM x, x, x, x": api.ErrTooLarge, "SELECT * FROM t, x": api.ErrNotFound, "SELECT a FROM t, t": api.ErrExists, "SELECT * FROM t AS u, u": api.ErrExists, "SELECT * FROM t AS x, u AS x": api.ErrExists, "SELECT a FROM t, u": api.ErrInvalid, "SELECT t.c FROM t, u": api.ErrNotFound, "SELECT t.a FROM t AS x": api.ErrNotFound, "SELECT a FROM t AS x, t AS y": api.ErrInvalid,
		"SELECT b + 1 FROM t": api.ErrType, "SELECT a * a FROM t": api.ErrUnsupported, "SELECT a FROM t WHERE b < b": api.ErrUnsupported, "SELECT a = 1 FROM t": api.ErrType, "SELECT SUM(b) FROM t": api.ErrType, "SELECT MIN(a = 1) FROM t": api.ErrType, "SELECT COUNT(a IS NULL) FROM t": api.ErrType, "SELECT a FROM t WHERE a": api.ErrType,
		"SELECT a, COUNT(*) FROM t": api.ErrInvalid, "SELECT * FROM t GROUP BY a": api.ErrInvalid, "SELECT b FROM t GROUP BY a": api.ErrInvalid, "SELECT a + 1 FROM t GROUP BY a": api.ErrInvalid, "SELECT 1, COUNT(*) FROM t": api.ErrInvalid, "SELECT x.a FROM t AS x, t AS y GROUP BY y.a": api.ErrInvalid, "SELECT COUNT(*) FROM t GROUP BY c": api.ErrNotFound, "SELECT a FROM t, u GROUP BY a": api.ErrInvalid,
		"SELECT a FROM t ORDER BY 2": api.ErrInvalid, "SELECT * FROM t ORDER BY 3": api.ErrInvalid, "SELECT COUNT(*) FROM t ORDER BY 2147483648": api.ErrInvalid,
		"SELECT c FROM t WHERE b + 1": api.ErrNotFound, "SELECT a FROM t WHERE b + 1 = a GROUP BY c": api.ErrType, "SELECT b FROM t WHERE a = 1 GROUP BY c ORDER BY 9": api.ErrNotFound,
	} {
		if b, e := Bind(s, statement(t, text)); e != want || !reflect.DeepEqual(b, api.Bound{}) {
			t.Errorf("%s: %d, want %d", text, e, want)
		}
	}
	for _, text := range []string{"SELECT t.a FROM t, u", "SELECT x.a FROM t AS x, t AS y GROUP BY x.a", "SELECT MIN(b), MAX(a), COUNT(b), COUNT(NULL), SUM(NULL) FROM t", "SELECT a FROM t GROUP BY b, a", "SELECT NULL FROM t WHERE NULL", "SELECT * FROM t AS u, u AS t", "SELECT 'a', 1 FROM t"} {
		mustBind(t, s, text)
	}
}

func TestTypes(t *testing.T) {
	s := bound(t)
	for text, c := range map[string]struct {
		typ int
		err api.Errno
	}{
		"1": {api.Integer, api.OK}, "'x'": {api.Text, api.OK}, "NULL": {api.Null, api.OK}, "a": {api.Integer, api.OK}, "b": {api.Text, api.OK}, "t.b": {api.Text, api.OK},
		"-a + a - 1 * a": {api.Integer, api.OK}, "-NULL": {api.Integer, api.OK}, "NULL + NULL": {api.Integer, api.OK}, "a % 1000": {api.Integer, api.OK}, "LENGTH(b)": {api.Integer, api.OK}, "LENGTH(NULL)": {api.Integer, api.OK}, "(a - a) / (1 + 2)": {api.Integer, api.OK}, "NULL * a": {api.Integer, api.OK}, "NULL / 5": {api.Integer, api.OK},
		"a = 1": {api.Boolean, api.OK}, "b <> 'x'": {api.Boolean, api.OK}, "b = b": {api.Boolean, api.OK}, "b <> b": {api.Boolean, api.OK}, "b < 'x'": {api.Boolean, api.OK}, "'x' >= b": {api.Boolean, api.OK}, "a < a": {api.Boolean, api.OK}, "NULL = NULL": {api.Boolean, api.OK}, "NULL <= b": {api.Boolean, api.OK}, "a > NULL": {api.Boolean, api.OK}, "'a' < 'b'": {api.Boolean, api.OK}, "b LIKE 'x%'": {api.Boolean, api.OK}, "NULL LIKE 'x'": {api.Boolean, api.OK}, "a IS NULL": {api.Boolean, api.OK}, "b IS NULL": {api.Boolean, api.OK}, "NULL IS NULL": {api.Boolean, api.OK}, "NOT NULL": {api.Boolean, api.OK}, "NULL AND a = 1": {api.Boolean, api.OK}, "a = 1 OR NULL": {api.Boolean, api.OK},
		"c": {0, api.ErrNotFound}, "u.a": {0, api.ErrNotFound}, "t.c": {0, api.ErrNotFound},
		"-b": {0, api.ErrType}, "a + b": {0, api.ErrType}, "b - a": {0, api.ErrType}, "a * 'x'": {0, api.ErrType}, "b / 2": {0, api.ErrType}, "2 % b": {0, api.ErrType}, "-(a = 1)": {0, api.ErrType}, "LENGTH(a)": {0, api.ErrType}, "LENGTH(a = 1)": {0, api.ErrType}, "a = b": {0, api.ErrType}, "1 < 'x'": {0, api.ErrType}, "(a = 1) = (a = 1)": {0, api.ErrType}, "NULL = (a = 1)": {0, api.ErrType}, "a LIKE 'x'": {0, api.ErrType}, "(a = 1) LIKE 'x'": {0, api.ErrType}, "(a = 1) IS NULL": {0, api.ErrType}, "NOT a": {0, api.ErrType}, "a AND a = 1": {0, api.ErrType}, "a = 1 OR b": {0, api.ErrType}, "'x' AND NULL": {0, api.ErrType},
		"a * a": {0, api.ErrUnsupported}, "(a - a) * (a + 1)": {0, api.ErrUnsupported}, "a / a": {0, api.ErrUnsupported}, "a / 0": {0, api.ErrUnsupported}, "a / -1": {0, api.ErrUnsupported}, "a / 1001": {0, api.ErrUnsupported}, "a % 0": {0, api.ErrUnsupported}, "a / NULL": {0, api.ErrUnsupported}, "a % (a * 0)": {0, api.ErrUnsupported}, "b < b": {0, api.ErrUnsupported}, "b <= b": {0, api.ErrUnsupported}, "b > b": {0, api.ErrUnsupported}, "b >= b": {0, api.ErrUnsupported}, "NULL / 0": {0, api.ErrUnsupported}, "a * NULL * a": {0, api.ErrUnsupported},
		"a * 1048577": {0, api.ErrTooLarge}, "a * 1048576 + a": {0, api.ErrTooLarge}, "1048577 * 1048577": {0, api.ErrTooLarge}, "a % 1000 * 1048577": {0, api.ErrTooLarge}, "-(a * 1048577)": {0, api.ErrTooLarge},
		"c + b": {0, api.ErrNotFound}, "b + c": {0, api.ErrNotFound}, "b + 1 = c": {0, api.ErrType}, "a * a + c": {0, api.ErrUnsupported}, "'x' * a / 0": {0, api.ErrType}, "a * 1048576 + a * NULL": {api.Integer, api.OK}, "2147483648 * 2147483648 * NULL": {0, api.ErrTooLarge}, "NULL * 2147483648 * 2147483648": {api.Integer, api.OK}, "a * 1048576 + a + NULL": {0, api.ErrTooLarge},
	} {
		e := expression(t, text)
		x, typ, err := Check(s[0], e)
		if typ != c.typ || err != c.err || err != api.OK && !reflect.DeepEqual(x, api.Expr{}) {
			t.Errorf("Check of %s: %d, %d, want %d, %d", text, typ, err, c.typ, c.err)
		}
		if err != api.OK {
			continue
		}
		if !ast.EqualExpr(x, e) {
			t.Errorf("%s is bound as %v", text, x)
		}
		if typ, err := Type(x, schema.Variables(s[0])); typ != c.typ || err != api.OK {
			t.Errorf("Type of %s: %d, %d", text, typ, err)
		}
	}
}

func TestType(t *testing.T) {
	l := []api.Variable{{Type: api.Integer}, {Type: api.Text}, {Type: api.Text}}
	column := func(i int) api.Expr { return api.Expr{Op: api.OpColumn, Name: "a", Index: i} }
	op := func(o int, args ...api.Expr) api.Expr { return api.Expr{Op: o, Args: args} }
	for i, c := range []struct {
		e   api.Expr
		typ int
		err api.Errno
	}{{column(0), api.Integer, api.OK}, {column(2), api.Text, api.OK}, {column(3), 0, api.ErrNotFound}, {column(-1), 0, api.ErrNotFound}, {op(api.OpEq, column(1), column(2)), api.Boolean, api.OK}, {op(api.OpLt, column(1), column(2)), 0, api.ErrUnsupported}, {op(api.OpEq, column(0), column(2)), 0, api.ErrType}, {op(api.OpMul, column(0), column(0)), 0, api.ErrUnsupported}, {op(api.OpAdd, column(3), column(1)), 0, api.ErrNotFound}} {
		if typ, err := Type(c.e, l); typ != c.typ || err != c.err {
			t.Errorf("case %d: %d, %d", i, typ, err)
		}
	}
}

func TestHeader(t *testing.T) {
	s := bound(t)
	for text, want := range map[string][]string{
		"SELECT a, COUNT(*) FROM t GROUP BY a":                                       {"a", "COUNT(*)"},
		"SELECT * FROM t AS x, u":                                                    {"a", "b", "c", "a", "d"},
		"SELECT x.a, x.b, 1 + x.a * (2 - 3), 'it''s' FROM t AS x":                    {"a", "b", "1 + x.a * (2 - 3)", "'it''s'"},
		"SELECT SUM(x.a), MIN(b), MAX(-(-a)), COUNT(a + 1), COUNT(NULL) FROM t AS x": {"SUM(x.a)", "MIN(b)", "MAX(-(-a))", "COUNT(a + 1)", "COUNT(NULL)"},
	} {
		if got := Header(s, mustBind(t, s, text)); !slices.Equal(got, want) {
			t.Errorf("Header of %s: %q", text, got)
		}
	}
	for _, text := range []string{"BEGIN", "DELETE FROM t", "INSERT INTO t VALUES (1, 'x')"} {
		if Header(s, mustBind(t, s, text)) != nil {
			t.Errorf("%s has a header", text)
		}
	}
}

func TestSchema(t *testing.T) {
	s := unbound(t, tables)
	kept := copies.List(s, copies.Table)
	b, e := Schema(s)
	if e != api.OK || !slices.Equal(indexes(b[0].Checks[0]), []int{0, 1}) || len(b) != 2 {
		t.Errorf("Schema: %v, %d", b, e)
	}
	b[0].Checks[0].Args[0].Op = api.OpNe
	b[0].Columns[0].Low = 5
	if !reflect.DeepEqual([]api.Table(s), kept) {
		t.Error("the argument is changed")
	}
	for text, want := range map[string]api.Errno{
		"CREATE TABLE t (a INTEGER, CHECK (b = 1));":                                               api.ErrNotFound,
		"CREATE TABLE t (a INTEGER, CHECK (a + 1));":                                               api.ErrType,
		"CREATE TABLE t (a INTEGER, CHECK (a * a = 1), CHECK (b));":                                api.ErrUnsupported,
		"CREATE TABLE t (a INTEGER, CHECK (u.a = 1)); CREATE TABLE u (a INTEGER);":                 api.ErrNotFound,
		"CREATE TABLE t (a INTEGER, CHECK (t.a = 1)); CREATE TABLE u (a INTEGER, CHECK (a = ''));": api.ErrType,
		"CREATE TABLE t (a INTEGER, CHECK (a)); CREATE TABLE u (a INTEGER, CHECK (b));":            api.ErrType,
	} {
		if b, e := Schema(unbound(t, text)); b != nil || e != want {
			t.Errorf("%s: %v, %d", text, b, e)
		}
	}
	if b, e := Schema(nil); len(b) != 0 || e != api.OK {
		t.Errorf("Schema(nil): %v, %d", b, e)
	}
}

// Binding does not change its argument, a second binding changes nothing, and integer nodes have terms.
func TestBindAgain(t *testing.T) {
	s := bound(t)
	for _, text := range []string{"INSERT INTO t VALUES (1 + 2, 'x')", "UPDATE u SET d = 'x', c = a - c WHERE LENGTH(d) % 3 = a / 2 AND a * 2 < NULL", "DELETE FROM t WHERE b LIKE 'a%' AND -a = 4", "SELECT x.a, d, COUNT(*) FROM t AS x, u WHERE x.a + u.a = 3 GROUP BY x.a, y.b, d ORDER BY 3", "SELECT x.b FROM t AS x, t AS y WHERE x.b = y.b", "SAVEPOINT x"} {
		st := statement(t, text)
		kept := copies.Statement(st)
		b, e := Bind(s, st)
		if !reflect.DeepEqual(st, kept) {
			t.Errorf("%s is changed", text)
		}
		if e != api.OK {
			continue
		}
		again, e := Bind(s, b.Statement)
		if e != api.OK || !reflect.DeepEqual(again, b) {
			t.Errorf("%s is bound again as %v, %d", text, again, e)
		}
		var check func(x api.Expr)
		check = func(x api.Expr) {
			if typ, _ := Type(x, b.Variables); typ == api.Integer && !hasNull(x) {
				if _, e := linear.Of(x); e != api.OK {
					t.Errorf("%v has no term: %d", x, e)
				}
			}
			for _, a := range x.Args {
				check(a)
			}
		}
		check(b.Statement.Where)
		for _, a := range b.Statement.Sets {
			check(a.Expr)
		}
	}
}
