package parser

import (
	"strings"
	"testing"

	"disjoint/api"
	"disjoint/ast"
)

func checkExpression(t *testing.T, s, canonical string) {
	t.Helper()
	e, offset, err := Expression(s)
	if err != api.OK || offset != 0 {
		t.Errorf("Expression(%q): %d, %d", s, offset, err)
		return
	}
	if text, _ := ast.FormatExpr(e); text != canonical {
		t.Errorf("Expression(%q) is %q, want %q", s, text, canonical)
	}
}

func TestExpressions(t *testing.T) {
	for s, canonical := range map[string]string{
		"a NOT IN (1, 2)":                      "NOT (a = 1 OR a = 2)",
		"x IN (a, b, c)":                       "x = a OR x = b OR x = c",
		"x in (a)":                             "x = a",
		"x + 1 IN (y * 2, -z)":                 "x + 1 = y * 2 OR x + 1 = -z",
		"x BETWEEN a AND b AND c":              "x >= a AND x <= b AND c",
		"x NOT BETWEEN 1 AND 2 + 3":            "NOT (x >= 1 AND x <= 2 + 3)",
		"x IS NOT NULL":                        "NOT x IS NULL",
		"x is null":                            "x IS NULL",
		"x NOT LIKE 'a'":                       "NOT x LIKE 'a'",
		"x LIKE ''":                            "x LIKE ''",
		"((a))":                                "a",
		"(a OR b) AND c OR d":                  "(a OR b) AND c OR d",
		"a AND (b AND c)":                      "a AND (b AND c)",
		"NOT NOT a = b":                        "NOT NOT a = b",
		"a - b - c * d / e % f":                "a - b - c * d / e % f",
		"a - (b - c)":                          "a - (b - c)",
		"- a * - 5":                            "-a * -5",
		"-(-a)":                                "-(-a)",
		"T.A <> 'x''y'":                        "t.a <> 'x''y'",
		"LENGTH(a || ''":                       "",
		"length ( a ) + NULL":                  "LENGTH(a) + NULL",
		"(a = b) = (c < d)":                    "(a = b) = (c < d)",
		"a <= 2147483648":                      "a <= 2147483648",
		"(x IN (1, 2)) IS NULL":                "(x = 1 OR x = 2) IS NULL",
		"a > 1 -- comment\n OR\tb >= 0 -- end": "a > 1 OR b >= 0",
	} {
		if canonical != "" {
			checkExpression(t, s, canonical)
		}
	}
}

func TestTrees(t *testing.T) {
	e, _, _ := Expression("NOT t.a + 1 LIKE 'x' OR NULL")
	a := api.Expr{Op: api.OpColumn, Table: "t", Name: "a"}
	one := literal(api.Value{Kind: api.Integer, Int: 1})
	want := node(api.OpOr, node(api.OpNot, node(api.OpLike, node(api.OpAdd, a, one), literal(api.Value{Kind: api.Text, Text: "x"}))), literal(api.Value{}))
	if !ast.EqualExpr(e, want) {
		t.Errorf("the tree is %v", e)
	}
	s, _, _ := Statement("SELECT x.a FROM t AS x WHERE a = 1")
	if s.Where.Args[0].Index != 0 || s.Items[0].Expr.Table != "x" || s.From[0].Alias != "x" {
		t.Errorf("the statement is %v", s)
	}
}

// The copies of an operand are independent of each other.
func TestCopies(t *testing.T) {
	e, _, _ := Expression("-a BETWEEN 1 AND 2")
	e.Args[0].Args[0].Args[0].Name = "z"
	if text, _ := ast.FormatExpr(e); text != "-z >= 1 AND -a <= 2" {
		t.Errorf("the operands share memory: %s", text)
	}
	e, _, _ = Expression("-a IN (1, 2, 3)")
	e.Args[1].Args[0].Args[0].Name = "z"
	if text, _ := ast.FormatExpr(e); text != "-a = 1 OR -a = 2 OR -z = 3" {
		t.Errorf("the operands share memory: %s", text)
	}
}

func TestStatements(t *testing.T) {
	for s, canonical := range map[string]string{
		"SELECT * FROM t, u JOIN v ON t.a = v.a WHERE b > 0":                                                                                        "SELECT * FROM t, u, v WHERE t.a = v.a AND b > 0",
		"SELECT * FROM t JOIN u ON a JOIN v AS w ON b, x WHERE c AND d":                                                                             "SELECT * FROM t, u, v AS w, x WHERE a AND b AND (c AND d)",
		"SELECT * FROM t JOIN u ON a OR b":                                                                                                          "SELECT * FROM t, u WHERE a OR b",
		"select a, count(*), Count(b), SUM(c+1), min(d), MAX(e) from T as X group by A, x.b order by 2 desc, 1 asc, 3 limit 7":                      "SELECT a, COUNT(*), COUNT(b), SUM(c + 1), MIN(d), MAX(e) FROM t AS x GROUP BY a, x.b ORDER BY 2 DESC, 1, 3 LIMIT 7",
		"CREATE TABLE t (a INTEGER, b TEXT, c INTEGER(-5, 7) NOT NULL, d TEXT(3), UNIQUE (d), PRIMARY KEY (b, a), e INTEGER (0, 1))":                "CREATE TABLE t (a INTEGER(-2147483648, 2147483647) NOT NULL, b TEXT(16) NOT NULL, c INTEGER(-5, 7) NOT NULL, d TEXT(3), e INTEGER(0, 1), UNIQUE (d), UNIQUE (b, a))",
		"CREATE TABLE t (PRIMARY KEY (z, a), CHECK (a > 0), a INTEGER(2147483648, -2147483648), FOREIGN KEY (a, b) REFERENCES u (c, d), a TEXT(0))": "CREATE TABLE t (a INTEGER(2147483648, -2147483648) NOT NULL, a TEXT(0) NOT NULL, UNIQUE (z, a), FOREIGN KEY (a, b) REFERENCES u (c, d), CHECK (a > 0))",
		"INSERT INTO t VALUES (1, 'a'), (-2, NULL), (a OR b)":                                                                                       "INSERT INTO t VALUES (1, 'a'), (-2, NULL), (a OR b)",
		"UPDATE t SET a = a + 1, b = c = d WHERE x":                                                                                                 "UPDATE t SET a = a + 1, b = c = d WHERE x",
		"UPDATE t SET a = 1":            "UPDATE t SET a = 1",
		"DELETE FROM t":                 "DELETE FROM t",
		"DELETE FROM t WHERE a IS NULL": "DELETE FROM t WHERE a IS NULL",
		"BEGIN":                         "BEGIN", " commit ": "COMMIT", "ROLLBACK": "ROLLBACK", "ROLLBACK TO s": "ROLLBACK TO s", "SAVEPOINT S": "SAVEPOINT s", "release s": "RELEASE s",
	} {
		st, offset, err := Statement(s)
		if text, e := ast.Format(st); text != canonical || err != api.OK || e != api.OK || offset != 0 {
			t.Errorf("Statement(%q): %d, %d: %q, want %q", s, offset, err, text, canonical)
		}
		again, _, err := Statement(canonical)
		if err != api.OK || !ast.Equal(again, st) {
			t.Errorf("%q is not the same statement as %q", canonical, s)
		}
		loose := strings.NewReplacer(" ", "\n -- c\n\t ", "(", "( ", ",", " , ").Replace(canonical)
		if again, _, err = Statement(loose); err != api.OK || !ast.Equal(again, st) {
			t.Errorf("white space matters in %q", canonical)
		}
	}
}

func TestScripts(t *testing.T) {
	l, offset, err := Script("BEGIN; DELETE FROM t;\n-- nothing\nCOMMIT ;")
	if len(l) != 3 || l[1].Kind != api.StmtDelete || l[2].Kind != api.StmtCommit || offset != 0 || err != api.OK {
		t.Errorf("Script = %v, %d, %d", l, offset, err)
	}
	for _, s := range []string{"", "  ", "-- x"} {
		if l, offset, err := Script(s); len(l) != 0 || offset != 0 || err != api.OK {
			t.Errorf("Script(%q) = %v, %d, %d", s, l, offset, err)
		}
	}
}

var large = "a = 0" + strings.Repeat(" OR a = 0", 100) // 404 nodes

func TestErrors(t *testing.T) {
	deep := strings.Repeat("NOT ", 50) + "a"
	nested := "a"
	for range 600 {
		nested = "(" + nested + " IN (1, 2))"
	}
	between := "a"
	for range 400 {
		between = "(" + between + " BETWEEN 1 AND 2)"
	}
	name := strings.Repeat("n", 24)
	long := name + "." + name + " IN (0" + strings.Repeat(",0", 99) + ")" // 400 nodes
	for _, c := range []struct {
		kind, s string
		offset  int
		e       api.Errno
	}{
		{"s", "DELETE t", 7, api.ErrSyntax}, {"e", "a = b = c", 6, api.ErrSyntax}, {"s", "", 0, api.ErrSyntax}, {"e", "  ", 2, api.ErrSyntax}, {"s", "BEGIN;", 5, api.ErrSyntax}, {"s", "BEGIN COMMIT", 6, api.ErrSyntax}, {"c", "BEGIN", 5, api.ErrSyntax}, {"c", ";", 0, api.ErrSyntax}, {"c", "BEGIN;;", 6, api.ErrSyntax}, {"c", "BEGIN; COMMIT", 13, api.ErrSyntax},
		{"e", "a !", 2, api.ErrSyntax}, {"s", "DELETE t 3000000000", 9, api.ErrTooLarge}, {"e", "a NOT", 5, api.ErrSyntax}, {"e", "a NOT 5", 6, api.ErrSyntax}, {"e", "a NOT NULL", 6, api.ErrSyntax}, {"e", "a IS 5", 5, api.ErrSyntax}, {"e", "a LIKE b", 7, api.ErrSyntax}, {"e", "- -5", 2, api.ErrSyntax}, {"e", "a IN ()", 6, api.ErrSyntax}, {"e", "a BETWEEN 1 OR 2", 12, api.ErrSyntax}, {"e", "a.b.c", 3, api.ErrSyntax}, {"e", "(a", 2, api.ErrSyntax}, {"e", "a b", 2, api.ErrSyntax}, {"e", "LENGTH a", 7, api.ErrSyntax}, {"e", "COUNT(*)", 0, api.ErrSyntax}, {"e", "select", 0, api.ErrSyntax}, {"e", "a OR", 4, api.ErrSyntax},
		{"s", "SELECT FROM t", 7, api.ErrSyntax}, {"s", "SELECT *, a FROM t", 8, api.ErrSyntax}, {"s", "SELECT SUM(*) FROM t", 11, api.ErrSyntax}, {"s", "SELECT * FROM t LIMIT 0", 22, api.ErrSyntax}, {"s", "SELECT * FROM t ORDER BY 0", 25, api.ErrSyntax}, {"s", "SELECT * FROM t ORDER BY a", 25, api.ErrSyntax}, {"s", "SELECT * FROM t LIMIT 1 ORDER BY 1", 24, api.ErrSyntax}, {"s", "SELECT * FROM t JOIN u", 22, api.ErrSyntax}, {"s", "SELECT * FROM t u", 16, api.ErrSyntax}, {"s", "SELECT * FROM t GROUP BY 1", 25, api.ErrSyntax}, {"s", "SELECT a AS b FROM t", 9, api.ErrSyntax},
		{"s", "CREATE TABLE t ()", 16, api.ErrSyntax}, {"s", "CREATE TABLE t (a)", 17, api.ErrSyntax}, {"s", "CREATE TABLE t (a INTEGER(1))", 27, api.ErrSyntax}, {"s", "CREATE TABLE t (a TEXT(-1))", 23, api.ErrSyntax}, {"s", "CREATE TABLE t (a TEXT NULL)", 23, api.ErrSyntax}, {"s", "CREATE TABLE t (UNIQUE a)", 23, api.ErrSyntax}, {"s", "CREATE TABLE t (a INTEGER(- -1, 2))", 28, api.ErrSyntax}, {"s", "CREATE TABLE t (CHECK a)", 22, api.ErrSyntax}, {"s", "CREATE TABLE t (FOREIGN KEY (a) REFERENCES u)", 44, api.ErrSyntax}, {"s", "CREATE TABLE t (PRIMARY (a))", 24, api.ErrSyntax},
		{"s", "INSERT INTO t VALUES 1", 21, api.ErrSyntax}, {"s", "INSERT INTO t (1)", 14, api.ErrSyntax}, {"s", "UPDATE t WHERE a", 9, api.ErrSyntax}, {"s", "UPDATE t SET t.a = 1", 14, api.ErrSyntax}, {"s", "ROLLBACK TO", 11, api.ErrSyntax}, {"s", "SAVEPOINT", 9, api.ErrSyntax},
		{"e", " " + deep, 1, api.ErrTooLarge}, {"e", " " + large, 1, api.ErrTooLarge}, {"s", "  DELETE FROM t WHERE " + large, 2, api.ErrTooLarge}, {"e", large + " b", len(large) + 1, api.ErrSyntax}, {"s", "DELETE FROM t WHERE " + large + ";", 20 + len(large), api.ErrSyntax},
		{"c", "BEGIN; DELETE FROM t WHERE " + large + "; x", 7, api.ErrTooLarge}, {"c", "BEGIN; DELETE FROM t WHERE " + large + " x", 28 + len(large), api.ErrSyntax}, {"c", "BEGIN; DELETE FROM t WHERE " + large, 27 + len(large), api.ErrSyntax}, {"c", "BEGIN x; DELETE FROM t WHERE " + large + ";", 6, api.ErrSyntax},
		{"e", nested, 0, api.ErrTooLarge}, {"e", between, 0, api.ErrTooLarge}, {"e", nested + ")", len(nested), api.ErrSyntax}, {"e", long[:len(long)-1] + ",0)", 0, api.ErrTooLarge},
	} {
		var zero bool
		var offset int
		var e api.Errno
		switch c.kind {
		case "s":
			var s api.Statement
			s, offset, e = Statement(c.s)
			zero = ast.Equal(s, api.Statement{})
		case "e":
			var x api.Expr
			x, offset, e = Expression(c.s)
			zero = ast.EqualExpr(x, api.Expr{})
		default:
			var l []api.Statement
			l, offset, e = Script(c.s)
			zero = l == nil
		}
		if offset != c.offset || e != c.e || !zero {
			t.Errorf("%s %.60q: %d, %d, want %d, %d", c.kind, c.s, offset, e, c.offset, c.e)
		}
	}
}

func TestLimits(t *testing.T) {
	for _, s := range []string{strings.Repeat("NOT ", 49) + "a", strings.Repeat("(", 8000) + "a" + strings.Repeat(")", 8000), "a IN (0" + strings.Repeat(",0", 99) + ") IS NULL"} {
		if _, offset, e := Expression(s); e != api.OK && s[0] != 'a' {
			t.Errorf("%.30q: %d, %d", s, offset, e)
		}
	}
	in := "a IN (0" + strings.Repeat(",0", 11) + ") AND b BETWEEN 1 AND 2"
	if e, _, err := Expression(in); err != api.OK || ast.Nodes(e) != 12*4-1+8 {
		t.Errorf("%d nodes, %d", ast.Nodes(e), err)
	}
	two := strings.Repeat("DELETE FROM t WHERE a IN (0"+strings.Repeat(",0", 30)+"); ", 30)
	if l, offset, e := Script(two); len(l) != 30 || e != api.OK {
		t.Errorf("each statement has its own limit: %d, %d", offset, e)
	}
	if _, offset, e := Statement(strings.Repeat(" ", api.MaxSource+1)); offset != api.MaxSource || e != api.ErrTooLarge {
		t.Errorf("a long text: %d, %d", offset, e)
	}
}
