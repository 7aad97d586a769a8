package ast

import (
	"strings"
	"testing"

	"disjoint/api"
)

var (
	integer = api.Column{Name: "a", Type: api.Integer, Low: -1 << 31, High: 1 << 31}
	text5   = api.Column{Name: "b", Type: api.Text, Max: 5, NotNull: true}
)

func create(columns ...api.Column) api.Statement {
	return api.Statement{Kind: api.StmtCreate, Table: "t", Create: api.Definition{Columns: columns}}
}

func insert(tuples ...[]api.Expr) api.Statement {
	return api.Statement{Kind: api.StmtInsert, Table: "t", Values: tuples}
}

func update(sets ...api.Assignment) api.Statement {
	return api.Statement{Kind: api.StmtUpdate, Table: "t", Sets: sets}
}

func selectFrom(sources ...api.Source) api.Statement {
	return api.Statement{Kind: api.StmtSelect, From: sources}
}

// with returns a changed copy of a statement.
func with(s api.Statement, f func(*api.Statement)) api.Statement {
	f(&s)
	return s
}

var full = api.Definition{
	Columns: []api.Column{integer, text5, {Name: "c", Type: api.Integer, NotNull: true}, {Name: "d", Type: api.Text}},
	Keys:    [][]string{{"a"}, {"b", "a"}},
	Foreign: []api.Reference{{Columns: []string{"a", "b"}, Table: "u", Target: []string{"x", "y"}}, {Columns: []string{"a"}, Table: "t", Target: []string{"a"}}},
	Checks:  []api.Expr{op(api.OpLt, a, b), op(api.OpOr, a, b)},
}

var query1 = api.Statement{
	Kind:  api.StmtSelect,
	Items: []api.Item{{Expr: qualified("x", "a")}, {Aggregate: api.AggRows}, {Aggregate: api.AggCount, Expr: a}, {Aggregate: api.AggSum, Expr: op(api.OpAdd, a, b)}, {Aggregate: api.AggMin, Expr: op(api.OpOr, a, b)}, {Aggregate: api.AggMax, Expr: num(1)}},
	From:  []api.Source{{Table: "t", Alias: "x"}, {Table: "u"}},
	Where: op(api.OpEq, a, b),
	Group: []api.Expr{a, qualified("x", "b")},
	Order: []api.Order{{Item: 2}, {Item: 1, Descending: true}},
	Limit: 10,
}

// texts are statements with their canonical texts.
var texts = []struct {
	s    api.Statement
	text string
}{
	{api.Statement{Kind: api.StmtCreate, Table: "t", Create: full}, "CREATE TABLE t (a INTEGER(-2147483648, 2147483648), b TEXT(5) NOT NULL, c INTEGER(0, 0) NOT NULL, d TEXT(0), UNIQUE (a), UNIQUE (b, a), FOREIGN KEY (a, b) REFERENCES u (x, y), FOREIGN KEY (a) REFERENCES t (a), CHECK (a < b), CHECK (a OR b))"},
	{api.Statement{Kind: api.StmtCreate, Table: "t", Create: api.Definition{Keys: [][]string{{"k"}}}}, "CREATE TABLE t (UNIQUE (k))"},
	{api.Statement{Kind: api.StmtCreate, Table: "t", Create: api.Definition{Checks: []api.Expr{a}}}, "CREATE TABLE t (CHECK (a))"},
	{api.Statement{Kind: api.StmtCreate, Table: "t", Create: api.Definition{Foreign: full.Foreign[1:]}}, "CREATE TABLE t (FOREIGN KEY (a) REFERENCES t (a))"},
	{insert([]api.Expr{num(1), str("x")}, []api.Expr{op(api.OpNeg, num(2)), null}), "INSERT INTO t VALUES (1, 'x'), (-2, NULL)"},
	{update(api.Assignment{Column: "a", Expr: op(api.OpAdd, a, num(1))}, api.Assignment{Column: "b", Expr: op(api.OpEq, a, b)}), "UPDATE t SET a = a + 1, b = a = b"},
	{with(update(api.Assignment{Column: "a", Expr: b}), func(s *api.Statement) { s.Where = op(api.OpNot, a) }), "UPDATE t SET a = b WHERE NOT a"},
	{api.Statement{Kind: api.StmtDelete, Table: "t"}, "DELETE FROM t"},
	{api.Statement{Kind: api.StmtDelete, Table: "t", Where: op(api.OpIsNull, a)}, "DELETE FROM t WHERE a IS NULL"},
	{selectFrom(api.Source{Table: "t"}), "SELECT * FROM t"},
	{query1, "SELECT x.a, COUNT(*), COUNT(a), SUM(a + b), MIN(a OR b), MAX(1) FROM t AS x, u WHERE a = b GROUP BY a, x.b ORDER BY 2, 1 DESC LIMIT 10"},
	{api.Statement{Kind: api.StmtBegin}, "BEGIN"}, {api.Statement{Kind: api.StmtCommit}, "COMMIT"}, {api.Statement{Kind: api.StmtRollback}, "ROLLBACK"},
	{api.Statement{Kind: api.StmtSavepoint, Name: "s"}, "SAVEPOINT s"}, {api.Statement{Kind: api.StmtRollbackTo, Name: "s"}, "ROLLBACK TO s"}, {api.Statement{Kind: api.StmtRelease, Name: "s"}, "RELEASE s"},
}

func TestStatements(t *testing.T) {
	for i, x := range texts {
		if got, err := Format(x.s); got != x.text || err != api.OK || Valid(x.s) != api.OK {
			t.Errorf("Format = %q, %d, want %q", got, err, x.text)
		}
		for j, y := range texts {
			if Equal(x.s, y.s) != (i == j) {
				t.Errorf("Equal(%s, %s)", x.text, y.text)
			}
		}
	}
}

// fields sets one field each, so that it is not empty.
var fields = map[string]func(*api.Statement){
	"table":   func(s *api.Statement) { s.Table = "x" },
	"columns": func(s *api.Statement) { s.Create.Columns = []api.Column{integer} },
	"keys":    func(s *api.Statement) { s.Create.Keys = [][]string{{"z"}} },
	"foreign": func(s *api.Statement) { s.Create.Foreign = full.Foreign[:1] },
	"checks":  func(s *api.Statement) { s.Create.Checks = []api.Expr{c} },
	"values":  func(s *api.Statement) { s.Values = [][]api.Expr{{a}} },
	"sets":    func(s *api.Statement) { s.Sets = []api.Assignment{{Column: "a", Expr: a}} },
	"items":   func(s *api.Statement) { s.Items = []api.Item{{Expr: c}} },
	"from":    func(s *api.Statement) { s.From = []api.Source{{Table: "z"}} },
	"where":   func(s *api.Statement) { s.Where = c },
	"group":   func(s *api.Statement) { s.Group = []api.Expr{c} },
	"order":   func(s *api.Statement) { s.Order = []api.Order{{Item: 9}} },
	"limit":   func(s *api.Statement) { s.Limit = 3 },
	"name":    func(s *api.Statement) { s.Name = "n" },
}

func TestFieldsOfKinds(t *testing.T) {
	used := map[int]string{
		api.StmtCreate: "table columns keys foreign checks", api.StmtInsert: "table values", api.StmtUpdate: "table sets where", api.StmtDelete: "table where",
		api.StmtSelect: "items from where group order limit", api.StmtBegin: "", api.StmtCommit: "", api.StmtRollback: "", api.StmtSavepoint: "name", api.StmtRollbackTo: "name", api.StmtRelease: "name",
	}
	for _, x := range texts {
		for name, set := range fields {
			want := api.ErrInvalid
			for _, f := range strings.Fields(used[x.s.Kind]) {
				if f == name {
					want = api.OK
				}
			}
			changed := with(x.s, set)
			if err := Valid(changed); err != want {
				t.Errorf("%s with another %s: %d", x.text, name, err)
			}
			if s, err := Format(changed); err != want || want != api.OK && s != "" {
				t.Errorf("%s with another %s: %q, %d", x.text, name, s, err)
			}
			if Equal(x.s, changed) || Equal(changed, x.s) {
				t.Errorf("%s is equal with another %s", x.text, name)
			}
		}
	}
	for _, k := range []int{-1, 0, 12} {
		if Valid(api.Statement{Kind: k}) != api.ErrInvalid {
			t.Errorf("kind %d is valid", k)
		}
	}
}

func TestInvalidStatements(t *testing.T) {
	for what, s := range map[string]api.Statement{
		"no elements": create(), "bad table": with(create(integer), func(s *api.Statement) { s.Table = "T" }), "no table": with(create(integer), func(s *api.Statement) { s.Table = "" }),
		"bad column name": create(api.Column{Name: "from", Type: api.Integer}), "low": create(api.Column{Name: "a", Type: api.Integer, Low: -1<<31 - 1}), "low above": create(api.Column{Name: "a", Type: api.Integer, Low: 1<<31 + 1}), "high": create(api.Column{Name: "a", Type: api.Integer, High: 1<<31 + 1}), "high below": create(api.Column{Name: "a", Type: api.Integer, High: -1<<31 - 1}), "integer with max": create(api.Column{Name: "a", Type: api.Integer, Max: 1}),
		"negative max": create(api.Column{Name: "a", Type: api.Text, Max: -1}), "large max": create(api.Column{Name: "a", Type: api.Text, Max: 1<<31 + 1}), "text with low": create(api.Column{Name: "a", Type: api.Text, Low: 1}), "text with high": create(api.Column{Name: "a", Type: api.Text, High: 1}), "boolean": create(api.Column{Name: "a", Type: api.Boolean}), "no type": create(api.Column{Name: "a"}), "second column": create(integer, api.Column{}),
		"empty key": with(create(integer), func(s *api.Statement) { s.Create.Keys = [][]string{{}} }), "bad key": with(create(integer), func(s *api.Statement) { s.Create.Keys = [][]string{{"a"}, {"a", ""}} }),
		"foreign without columns": with(create(integer), func(s *api.Statement) {
			s.Create.Foreign = []api.Reference{{Table: "t", Target: []string{"a"}}}
		}),
		"foreign without target": with(create(integer), func(s *api.Statement) {
			s.Create.Foreign = []api.Reference{{Table: "t", Columns: []string{"a"}}}
		}),
		"foreign without table": with(create(integer), func(s *api.Statement) {
			s.Create.Foreign = []api.Reference{{Columns: []string{"a"}, Target: []string{"a"}}}
		}),
		"bad target": with(create(integer), func(s *api.Statement) {
			s.Create.Foreign = []api.Reference{{Columns: []string{"a"}, Table: "t", Target: []string{"A"}}}
		}),
		"absent check": with(create(integer), func(s *api.Statement) { s.Create.Checks = []api.Expr{{}} }),
		"no tuples":    insert(), "empty tuple": insert([]api.Expr{a}, nil), "absent value": insert([]api.Expr{{}}), "bad value": insert([]api.Expr{num(-1)}), "insert into": with(insert([]api.Expr{a}), func(s *api.Statement) { s.Table = "into" }),
		"no sets": update(), "bad set": update(api.Assignment{Column: "", Expr: a}), "absent set": update(api.Assignment{Column: "a"}), "update table": with(update(api.Assignment{Column: "a", Expr: a}), func(s *api.Statement) { s.Table = "1" }), "update where": with(update(api.Assignment{Column: "a", Expr: a}), func(s *api.Statement) { s.Where = num(-1) }), "strange where": with(update(api.Assignment{Column: "a", Expr: a}), func(s *api.Statement) { s.Where.Name = "a" }),
		"delete": {Kind: api.StmtDelete}, "delete where": {Kind: api.StmtDelete, Table: "t", Where: op(-1)}, "absent with operand": {Kind: api.StmtDelete, Table: "t", Where: op(api.OpNone, a)}, "absent with value": {Kind: api.StmtDelete, Table: "t", Where: api.Expr{Value: api.Value{Int: 1}}},
		"no source": selectFrom(), "bad source": selectFrom(api.Source{Table: "t"}, api.Source{}), "bad alias": selectFrom(api.Source{Table: "t", Alias: "as"}),
		"absent item": with(query1, func(s *api.Statement) { s.Items = []api.Item{{}} }), "absent sum": with(query1, func(s *api.Statement) { s.Items = []api.Item{{Aggregate: api.AggSum}} }), "count of rows of": with(query1, func(s *api.Statement) { s.Items = []api.Item{{Aggregate: api.AggRows, Expr: a}} }), "aggregate 6": with(query1, func(s *api.Statement) { s.Items = []api.Item{{Aggregate: 6, Expr: a}} }), "aggregate -1": with(query1, func(s *api.Statement) { s.Items = []api.Item{{Aggregate: -1, Expr: a}} }),
		"group by number": with(query1, func(s *api.Statement) { s.Group = []api.Expr{a, num(1)} }), "group by absent": with(query1, func(s *api.Statement) { s.Group = []api.Expr{{}} }), "group by bad": with(query1, func(s *api.Statement) { s.Group = []api.Expr{col("A")} }),
		"order 0": with(query1, func(s *api.Statement) { s.Order = []api.Order{{}} }), "order -1": with(query1, func(s *api.Statement) { s.Order = []api.Order{{Item: -1}} }), "order large": with(query1, func(s *api.Statement) { s.Order = []api.Order{{Item: 1<<31 + 1}} }), "limit -1": with(query1, func(s *api.Statement) { s.Limit = -1 }), "limit large": with(query1, func(s *api.Statement) { s.Limit = 1<<31 + 1 }), "select where": with(query1, func(s *api.Statement) { s.Where = op(99) }),
		"savepoint": {Kind: api.StmtSavepoint}, "rollback to": {Kind: api.StmtRollbackTo, Name: "X"}, "release": {Kind: api.StmtRelease, Name: "to"},
	} {
		if err := Valid(s); err != api.ErrInvalid {
			t.Errorf("%s: Valid = %d", what, err)
		}
		if s, err := Format(s); s != "" || err != api.ErrInvalid {
			t.Errorf("%s: Format = %q, %d", what, s, err)
		}
	}
	for _, s := range []api.Statement{with(query1, func(s *api.Statement) { s.Limit = 1 << 31 }), with(query1, func(s *api.Statement) { s.Order = []api.Order{{Item: 1 << 31}} }), create(api.Column{Name: "a", Type: api.Text, Max: 1 << 31}), create(api.Column{Name: "a", Type: api.Integer, Low: 5, High: -5})} {
		if Valid(s) != api.OK {
			t.Errorf("%v is not valid", s)
		}
	}
}

func TestLimitsOfStatements(t *testing.T) {
	many := func(n int) []api.Expr {
		l := make([]api.Expr, n)
		for i := range l {
			l[i] = num(1)
		}
		return l
	}
	long := func(n int) api.Statement {
		s := selectFrom(api.Source{Table: strings.Repeat("a", 24)})
		for range n {
			s.From = append(s.From, api.Source{Table: strings.Repeat("a", 24), Alias: strings.Repeat("b", 24)})
		}
		return s
	}
	checks := create(integer)
	checks.Create.Checks = []api.Expr{bush(201), bush(201)}
	for what, x := range map[string]struct {
		s    api.Statement
		want api.Errno
	}{
		"400 nodes": {insert(many(200), many(200)), api.OK}, "401 nodes": {insert(many(200), many(201)), api.ErrTooLarge},
		"depth":     {api.Statement{Kind: api.StmtDelete, Table: "t", Where: chain(51)}, api.ErrTooLarge},
		"checks":    {checks, api.ErrTooLarge},
		"too large": {api.Statement{Kind: api.StmtBegin, Where: chain(51)}, api.ErrTooLarge}, "unused group": {api.Statement{Kind: api.StmtBegin, Group: many(401)}, api.ErrTooLarge}, "unused items": {api.Statement{Items: []api.Item{{Expr: bush(401)}}}, api.ErrTooLarge}, "unused sets": {api.Statement{Sets: []api.Assignment{{Expr: bush(401)}}}, api.ErrTooLarge}, "unused values": {api.Statement{Values: [][]api.Expr{many(401)}}, api.ErrTooLarge},
		"long text": {long(310), api.ErrTooLarge}, "long and invalid": {with(long(310), func(s *api.Statement) { s.Limit = -1 }), api.ErrInvalid},
	} {
		if err := Valid(x.s); err != x.want {
			t.Errorf("%s: Valid = %d", what, err)
		}
		if s, err := Format(x.s); err != x.want || (s == "") != (err != api.OK) {
			t.Errorf("%s: Format = %.20q, %d", what, s, err)
		}
	}
	exact := long(290)
	for left := api.MaxSource - len(statementText(exact)); left > 0; {
		n := min(left, 24+len(", x AS "))
		if left-n > 0 && left-n < 10 {
			n -= 10
		}
		exact.From = append(exact.From, api.Source{Table: "x", Alias: strings.Repeat("y", n-len(", x AS "))})
		left -= n
	}
	if text, err := Format(exact); len(text) != api.MaxSource || err != api.OK {
		t.Errorf("%d bytes: %d", len(text), err)
	}
	exact.Limit = 1
	if _, err := Format(exact); err != api.ErrTooLarge {
		t.Errorf("more bytes: %d", err)
	}
}

func TestEqualStatements(t *testing.T) {
	base := api.Statement{Kind: api.StmtCreate, Table: "t", Create: full, Values: [][]api.Expr{{a}}, Sets: []api.Assignment{{Column: "a", Expr: b}}, Items: query1.Items, From: query1.From, Where: a, Group: []api.Expr{a}, Order: query1.Order, Limit: 1, Name: "n"}
	for what, f := range map[string]func(*api.Statement){
		"kind":         func(s *api.Statement) { s.Kind = 2 },
		"column":       func(s *api.Statement) { s.Create.Columns = []api.Column{text5} },
		"key":          func(s *api.Statement) { s.Create.Keys = [][]string{{"a"}, {"a", "b"}} },
		"foreign":      func(s *api.Statement) { s.Create.Foreign = full.Foreign[:1] },
		"foreign name": func(s *api.Statement) { s.Create.Foreign = []api.Reference{full.Foreign[0], {Table: "u"}} },
		"target": func(s *api.Statement) {
			s.Create.Foreign = []api.Reference{full.Foreign[0], {Columns: []string{"a"}, Table: "t", Target: []string{"b"}}}
		},
		"foreign columns": func(s *api.Statement) {
			s.Create.Foreign = []api.Reference{full.Foreign[0], {Columns: []string{"b"}, Table: "t", Target: []string{"a"}}}
		},
		"check":    func(s *api.Statement) { s.Create.Checks = []api.Expr{a, b} },
		"value":    func(s *api.Statement) { s.Values = [][]api.Expr{{b}} },
		"set":      func(s *api.Statement) { s.Sets = []api.Assignment{{Column: "b", Expr: b}} },
		"set expr": func(s *api.Statement) { s.Sets = []api.Assignment{{Column: "a", Expr: c}} },
		"item":     func(s *api.Statement) { s.Items = query1.Items[1:] },
		"aggregate": func(s *api.Statement) {
			s.Items = append([]api.Item{{Aggregate: 2, Expr: qualified("x", "a")}}, query1.Items[1:]...)
		},
		"item expr":  func(s *api.Statement) { s.Items = append([]api.Item{{Expr: a}}, query1.Items[1:]...) },
		"alias":      func(s *api.Statement) { s.From = []api.Source{{Table: "t"}, {Table: "u"}} },
		"descending": func(s *api.Statement) { s.Order = []api.Order{{Item: 2}, {Item: 1}} },
		"absent":     func(s *api.Statement) { s.Where.Value.Int = 1 },
	} {
		if Equal(base, with(base, f)) {
			t.Errorf("another %s makes no difference", what)
		}
	}
	same := with(base, func(s *api.Statement) {
		s.Sets = []api.Assignment{{Column: "a", Index: 4, Expr: api.Expr{Op: api.OpColumn, Name: "b", Index: 2}}}
		s.Where.Args = []api.Expr{}
		s.Where.Index = 8
	})
	if !Equal(base, same) || !Equal(api.Statement{From: []api.Source{}}, api.Statement{}) {
		t.Error("Index or an empty list makes a difference")
	}
}
