package ast

import (
	"reflect"
	"testing"

	"disjoint/api"
)

func op(o int, args ...api.Expr) api.Expr { return api.Expr{Op: o, Args: args} }

func num(n int64) api.Expr {
	return api.Expr{Op: api.OpLiteral, Value: api.Value{Kind: api.Integer, Int: n}}
}

func str(s string) api.Expr {
	return api.Expr{Op: api.OpLiteral, Value: api.Value{Kind: api.Text, Text: s}}
}

func col(name string) api.Expr { return api.Expr{Op: api.OpColumn, Name: name} }

func qualified(table, name string) api.Expr {
	return api.Expr{Op: api.OpColumn, Table: table, Name: name}
}

var (
	a, b, c = col("a"), col("b"), col("c")
	null    = api.Expr{Op: api.OpLiteral}
)

// binary operators with their texts and levels, and the levels that their operands need.
var binary = []struct {
	op                 int
	text               string
	level, left, right int
}{
	{api.OpOr, "OR", 1, 1, 2}, {api.OpAnd, "AND", 2, 2, 3},
	{api.OpEq, "=", 4, 5, 5}, {api.OpNe, "<>", 4, 5, 5}, {api.OpLt, "<", 4, 5, 5}, {api.OpLe, "<=", 4, 5, 5}, {api.OpGt, ">", 4, 5, 5}, {api.OpGe, ">=", 4, 5, 5},
	{api.OpAdd, "+", 5, 5, 6}, {api.OpSub, "-", 5, 5, 6}, {api.OpMul, "*", 6, 6, 7}, {api.OpDiv, "/", 6, 6, 7}, {api.OpMod, "%", 6, 6, 7},
}

// operand is an expression with its text and level.
type operand struct {
	e     api.Expr
	text  string
	level int
}

func operandsOfAllLevels() []operand {
	l := []operand{{a, "a", 8}, {num(0), "0", 8}, {null, "NULL", 8}, {str("it's"), "'it''s'", 8}, {qualified("t", "a"), "t.a", 8}, {op(api.OpLength, op(api.OpOr, a, b)), "LENGTH(a OR b)", 8}, {op(api.OpNeg, a), "-a", 7}, {op(api.OpNot, a), "NOT a", 3}, {op(api.OpIsNull, a), "a IS NULL", 4}, {op(api.OpLike, a, str("x%")), "a LIKE 'x%'", 4}}
	for _, x := range binary {
		l = append(l, operand{op(x.op, a, b), "a " + x.text + " b", x.level})
	}
	return l
}

func (o operand) needed(level int) string {
	if o.level < level {
		return "(" + o.text + ")"
	}
	return o.text
}

func checkText(t *testing.T, e api.Expr, want string) {
	t.Helper()
	if got, err := FormatExpr(e); got != want || err != api.OK {
		t.Errorf("FormatExpr = %q, %d, want %q", got, err, want)
	}
	if ValidExpr(e) != api.OK {
		t.Errorf("%s is not valid", want)
	}
}

func TestParentheses(t *testing.T) {
	for _, x := range operandsOfAllLevels() {
		checkText(t, x.e, x.text)
		checkText(t, op(api.OpNeg, x.e), "-"+x.needed(8))
		checkText(t, op(api.OpNot, x.e), "NOT "+x.needed(3))
		checkText(t, op(api.OpIsNull, x.e), x.needed(5)+" IS NULL")
		checkText(t, op(api.OpLike, x.e, str("p")), x.needed(5)+" LIKE 'p'")
		checkText(t, op(api.OpLength, x.e), "LENGTH("+x.text+")")
		for _, y := range operandsOfAllLevels() {
			for _, z := range binary {
				checkText(t, op(z.op, x.e, y.e), x.needed(z.left)+" "+z.text+" "+y.needed(z.right))
			}
		}
	}
}

func TestExamples(t *testing.T) {
	checkText(t, op(api.OpOr, a, op(api.OpAnd, b, op(api.OpNot, op(api.OpEq, c, op(api.OpNeg, num(5)))))), "a OR b AND NOT c = -5")
	checkText(t, op(api.OpAnd, op(api.OpOr, a, b), c), "(a OR b) AND c")
	checkText(t, op(api.OpSub, a, op(api.OpSub, b, c)), "a - (b - c)")
	checkText(t, op(api.OpSub, op(api.OpSub, a, b), c), "a - b - c")
	checkText(t, op(api.OpNeg, op(api.OpNeg, a)), "-(-a)")
	checkText(t, op(api.OpIsNull, op(api.OpIsNull, a)), "(a IS NULL) IS NULL")
}

func invalidExpr(t *testing.T, what string, e api.Expr) {
	t.Helper()
	for _, x := range []api.Expr{e, op(api.OpNot, e), op(api.OpAdd, num(1), e)} {
		if err := ValidExpr(x); err != api.ErrInvalid {
			t.Errorf("%s: ValidExpr = %d", what, err)
		}
		if s, err := FormatExpr(x); s != "" || err != api.ErrInvalid {
			t.Errorf("%s: FormatExpr = %q, %d", what, s, err)
		}
	}
}

func TestInvalidExpressions(t *testing.T) {
	value := func(k int, n int64, s string) api.Expr {
		return api.Expr{Op: api.OpLiteral, Value: api.Value{Kind: k, Int: n, Text: s}}
	}
	for what, e := range map[string]api.Expr{
		"absent": {}, "operator -1": op(-1), "operator 21": op(21, a, b), "none with operands": op(api.OpNone, a),
		"negative": num(-1), "large": num(1<<31 + 1), "long": str("seventeen letters"), "line feed": str("\n"), "delete": str("\x7f"), "kind": value(3, 0, ""), "null with number": value(0, 1, ""), "null with text": value(0, 0, "a"), "number with text": value(1, 1, "a"), "text with number": value(2, 1, "a"),
		"literal with name": {Op: api.OpLiteral, Name: "a"}, "literal with table": {Op: api.OpLiteral, Table: "a"}, "literal with operand": {Op: api.OpLiteral, Args: []api.Expr{a}},
		"no name": {Op: api.OpColumn}, "keyword": col("select"), "upper case": col("A"), "long name": col("abcdefghijklmnopqrstuvwxy"), "bad table": qualified("T", "a"), "keyword as table": qualified("table", "a"), "column with value": {Op: api.OpColumn, Name: "a", Value: api.Value{Kind: 1}}, "column with operand": {Op: api.OpColumn, Name: "a", Args: []api.Expr{b}},
		"neg without operand": op(api.OpNeg), "neg with two": op(api.OpNeg, a, b), "not with two": op(api.OpNot, a, b), "length with none": op(api.OpLength), "null with two": op(api.OpIsNull, a, b),
		"like with column": op(api.OpLike, a, b), "like with number": op(api.OpLike, a, num(1)), "like with null": op(api.OpLike, a, null), "like with one": op(api.OpLike, a), "like with bad text": op(api.OpLike, a, str("\n")), "like with a strange literal": op(api.OpLike, a, api.Expr{Op: api.OpLiteral, Name: "x", Value: api.Value{Kind: api.Text}}),
		"operator with name": {Op: api.OpNot, Name: "a", Args: []api.Expr{a}}, "operator with table": {Op: api.OpNot, Table: "a", Args: []api.Expr{a}}, "operator with value": {Op: api.OpNot, Value: api.Value{Kind: 1}, Args: []api.Expr{a}},
		"bad left operand": op(api.OpEq, num(-1), a), "bad right operand": op(api.OpEq, a, api.Expr{}),
	} {
		invalidExpr(t, what, e)
	}
	for _, x := range binary {
		invalidExpr(t, x.text+" with one operand", op(x.op, a))
		invalidExpr(t, x.text+" with three operands", op(x.op, a, b, c))
	}
	for _, e := range []api.Expr{num(1 << 31), str("sixteen letters!"), str(""), col("abcdefghijklmnopqrstuvwx"), {Op: api.OpLiteral, Index: 7, Args: []api.Expr{}}} {
		if ValidExpr(e) != api.OK {
			t.Errorf("%v is not valid", e)
		}
	}
}

// chain is an expression of the given depth, and as many nodes.
func chain(depth int) api.Expr {
	e := a
	for range depth - 1 {
		e = op(api.OpNot, e)
	}
	return e
}

// bush is a shallow expression with an odd number of nodes.
func bush(nodes int) api.Expr {
	if nodes == 1 {
		return a
	}
	half := nodes / 2
	if half%2 == 0 {
		half--
	}
	return op(api.OpAnd, bush(half), bush(nodes-1-half))
}

func TestLimitsOfExpressions(t *testing.T) {
	for _, x := range []struct {
		e    api.Expr
		want api.Errno
	}{
		{chain(50), api.OK}, {chain(51), api.ErrTooLarge}, {bush(399), api.OK}, {bush(401), api.ErrTooLarge}, {op(api.OpNot, bush(399)), api.OK},
		{op(-1, bush(401)), api.ErrTooLarge}, {op(-1, chain(50)), api.ErrTooLarge}, {op(-1, chain(49)), api.ErrInvalid}, {op(api.OpNone, chain(50)), api.ErrInvalid}, {op(api.OpNone, chain(51)), api.ErrTooLarge},
	} {
		if err := ValidExpr(x.e); err != x.want {
			t.Errorf("ValidExpr = %d, want %d, for %d nodes and depth %d", err, x.want, Nodes(x.e), Depth(x.e))
		}
		if s, err := FormatExpr(x.e); err != x.want || (s == "") != (err != api.OK) {
			t.Errorf("FormatExpr = %q, %d", s, err)
		}
	}
	double := a
	for range 60 {
		double = op(api.OpAnd, double, double)
	}
	if ValidExpr(double) != api.ErrTooLarge {
		t.Error("a huge expression")
	}
}

func TestNodesAndColumns(t *testing.T) {
	hidden := op(api.OpNone, qualified("t", "x"), op(api.OpNone), op(77, b))
	for _, x := range []struct {
		e            api.Expr
		nodes, depth int
		columns      []api.Expr
	}{
		{api.Expr{}, 0, 0, nil}, {num(1), 1, 1, nil}, {a, 1, 1, []api.Expr{a}}, {op(api.OpNone, op(api.OpNone, a)), 1, 1, []api.Expr{a}},
		{op(api.OpSub, op(api.OpAdd, b, a), op(api.OpNeg, b)), 6, 3, []api.Expr{b, a, b}},
		{hidden, 3, 2, []api.Expr{qualified("t", "x"), b}},
		{op(api.OpColumn, a, op(api.OpNot, b)), 4, 3, []api.Expr{op(api.OpColumn, a, op(api.OpNot, b)), a, b}},
		{op(api.OpLike, a, str("b")), 3, 2, []api.Expr{a}},
	} {
		if Nodes(x.e) != x.nodes || Depth(x.e) != x.depth || !equalLists(Columns(x.e), x.columns) {
			t.Errorf("%v: %d nodes, depth %d, columns %v", x.e, Nodes(x.e), Depth(x.e), Columns(x.e))
		}
	}
	e := op(api.OpColumn, a)
	e.Index = 5
	l := Columns(op(api.OpNot, e))
	if l[0].Index != 5 {
		t.Error("Index is lost")
	}
	l[0].Args[0].Name = "z"
	if e.Args[0].Name != "a" {
		t.Error("Columns shares memory with its argument")
	}
}

func TestEqualExpr(t *testing.T) {
	list := []api.Expr{{}, a, b, num(1), num(2), null, str("a"), qualified("t", "a"), op(api.OpNot, a), op(api.OpNeg, a), op(api.OpAdd, a, b), op(api.OpAdd, b, a), op(api.OpAdd, a), op(-1), {Op: api.OpColumn, Name: "a", Value: api.Value{Kind: 1}}}
	for i, x := range list {
		for j, y := range list {
			y.Index = 3
			if EqualExpr(x, y) != (i == j) {
				t.Errorf("EqualExpr(%v, %v) = %v", x, y, i != j)
			}
		}
	}
	deep := op(api.OpNot, op(api.OpNot, a))
	other := op(api.OpNot, op(api.OpNot, a))
	other.Args[0].Args[0].Index = 9
	if !EqualExpr(deep, other) || !EqualExpr(api.Expr{Args: []api.Expr{}}, api.Expr{}) {
		t.Error("Index or an empty list matters")
	}
	other.Args[0].Args[0].Table = "t"
	if EqualExpr(deep, other) || !reflect.DeepEqual(deep, op(api.OpNot, op(api.OpNot, a))) {
		t.Error("EqualExpr")
	}
}

func TestIndexMakesNoDifference(t *testing.T) {
	e := op(api.OpAnd, a, b)
	e.Index, e.Args[0].Index = 4, -1
	checkText(t, e, "a AND b")
	s := api.Statement{Kind: api.StmtUpdate, Table: "t", Sets: []api.Assignment{{Column: "a", Index: 7, Expr: num(1)}}, Where: api.Expr{Index: 3}}
	if text, err := Format(s); text != "UPDATE t SET a = 1" || err != api.OK {
		t.Errorf("Format = %q, %d", text, err)
	}
	if Nodes(e) != 3 {
		t.Error("Nodes")
	}
}
