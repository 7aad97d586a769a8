package schema

import (
	"reflect"
	"slices"
	"strings"
	"testing"

	"disjoint/api"
	"disjoint/parser"
	"disjoint/value"
)

func script(t *testing.T, s string) []api.Statement {
	t.Helper()
	l, offset, e := parser.Script(s)
	if e != api.OK {
		t.Fatalf("%q: %d at %d", s, e, offset)
	}
	return l
}

func build(t *testing.T, s string) api.Schema {
	t.Helper()
	x, at, e := Build(script(t, s))
	if e != api.OK || at != 0 {
		t.Fatalf("Build of %q: %d at %d", s, e, at)
	}
	return x
}

const shop = `
CREATE TABLE owner (id INTEGER(0, 99), name TEXT(8) NOT NULL, PRIMARY KEY (id), UNIQUE (name, id));
CREATE TABLE item (owner INTEGER, label TEXT, price INTEGER(-5, 5) NOT NULL, next TEXT(16), UNIQUE (label), FOREIGN KEY (owner) REFERENCES owner (id), FOREIGN KEY (label, owner) REFERENCES owner (name, id), FOREIGN KEY (next) REFERENCES item (label), CHECK (price > 0), CHECK (owner IS NULL));
CREATE TABLE other (x INTEGER(1, 1), FOREIGN KEY (x) REFERENCES owner (id));`

func TestBuild(t *testing.T) {
	s := build(t, shop)
	integer := func(name string, low, high int64, notNull bool) api.Column {
		return api.Column{Name: name, Type: api.Integer, Low: low, High: high, NotNull: notNull}
	}
	text := func(name string, n int, notNull bool) api.Column {
		return api.Column{Name: name, Type: api.Text, Max: n, NotNull: notNull}
	}
	want := []api.Table{
		{Name: "owner", Columns: []api.Column{integer("id", 0, 99, true), text("name", 8, true)}, Keys: [][]int{{0}, {1, 0}}},
		{Name: "item", Columns: []api.Column{integer("owner", -1<<31, 1<<31-1, false), text("label", 16, false), integer("price", -5, 5, true), text("next", 16, false)}, Keys: [][]int{{1}}, Foreign: []api.Foreign{{Columns: []int{0}}, {Columns: []int{1, 0}, Key: 1}, {Columns: []int{3}, Table: 1}}},
		{Name: "other", Columns: []api.Column{integer("x", 1, 1, false)}, Foreign: []api.Foreign{{Columns: []int{0}}}},
	}
	for i, w := range want {
		got := s[i]
		if len(got.Checks) != []int{0, 2, 0}[i] {
			t.Errorf("table %d has %d checks", i, len(got.Checks))
		}
		got.Checks = nil
		if !reflect.DeepEqual(got, w) {
			t.Errorf("table %d is %v, want %v", i, got, w)
		}
	}
	if !Valid(s) || len(s) != 3 {
		t.Error("the schema is not valid")
	}
	if e, _, _ := Build(nil); len(e) != 0 || !Valid(e) {
		t.Error("the schema without tables")
	}
}

func TestRestore(t *testing.T) {
	s := build(t, shop)
	var l []api.Statement
	for i := range s {
		st, ok := Statement(s, i)
		if !ok || st.Kind != api.StmtCreate || st.Table != s[i].Name {
			t.Fatalf("Statement(%d) = %v, %v", i, st, ok)
		}
		l = append(l, st)
	}
	again, _, e := Build(l)
	if e != api.OK || !reflect.DeepEqual(again, s) {
		t.Errorf("restored: %v, %d", again, e)
	}
	bad := slices.Clone(s)
	bad[1].Name = "owner"
	for _, x := range []struct {
		s     api.Schema
		table int
	}{{s, -1}, {s, 3}, {bad, 0}, {nil, 0}} {
		if st, ok := Statement(x.s, x.table); ok || !reflect.DeepEqual(st, api.Statement{}) {
			t.Errorf("Statement of table %d: %v, %v", x.table, st, ok)
		}
	}
}

func TestNoSharing(t *testing.T) {
	l := script(t, "CREATE TABLE a (x INTEGER, y INTEGER, UNIQUE (x), FOREIGN KEY (y) REFERENCES a (x), CHECK (x > 0));")
	s, _, _ := Build(l)
	st, _ := Statement(s, 0)
	l[0].Create.Columns[0].Name = "z"
	l[0].Create.Checks[0].Args[0].Name = "z"
	st.Create.Columns[0].Name = "w"
	st.Create.Checks[0].Args[0].Name = "w"
	Variables(s[0])[0].Low = 7
	if s[0].Columns[0].Name != "x" || s[0].Checks[0].Args[0].Name != "x" || s[0].Columns[0].Low == 7 {
		t.Error("memory is shared")
	}
}

func TestBuildErrors(t *testing.T) {
	nine := func(s string) string { return strings.TrimSuffix(strings.Repeat(s+", ", 9), ", ") }
	columns := "a INTEGER, b INTEGER, c TEXT, d TEXT, e INTEGER, f INTEGER, g INTEGER, h INTEGER"
	for what, c := range map[string]struct {
		s  string
		at int
		e  api.Errno
	}{
		"no create": {"BEGIN;", 0, api.ErrInvalid}, "second": {"CREATE TABLE a (x INTEGER); DELETE FROM a;", 1, api.ErrInvalid},
		"columns": {"CREATE TABLE a (" + columns + ", i INTEGER);", 0, api.ErrTooLarge}, "keys": {"CREATE TABLE a (" + columns + ", UNIQUE (a), UNIQUE (b), UNIQUE (c), UNIQUE (d), UNIQUE (e));", 0, api.ErrTooLarge},
		"foreign": {"CREATE TABLE a (" + columns + ", UNIQUE (a), FOREIGN KEY (a) REFERENCES a (a), FOREIGN KEY (b) REFERENCES a (a), FOREIGN KEY (e) REFERENCES a (a), FOREIGN KEY (f) REFERENCES a (a), FOREIGN KEY (g) REFERENCES a (a));", 0, api.ErrTooLarge},
		"checks":  {"CREATE TABLE a (x INTEGER, " + nine("CHECK (x > 0)") + ");", 0, api.ErrTooLarge}, "too large first": {"CREATE TABLE a (" + nine("x INTEGER(5, 1)") + ");", 0, api.ErrTooLarge},
		"no columns": {"CREATE TABLE a (UNIQUE (x));", 0, api.ErrInvalid}, "bounds": {"CREATE TABLE a (x INTEGER(2, 1));", 0, api.ErrInvalid}, "high": {"CREATE TABLE a (x INTEGER(0, 2147483648));", 0, api.ErrInvalid}, "text 0": {"CREATE TABLE a (x TEXT(0));", 0, api.ErrInvalid}, "text 17": {"CREATE TABLE a (x TEXT(17));", 0, api.ErrInvalid},
		"foreign length": {"CREATE TABLE a (x INTEGER, y INTEGER, UNIQUE (x), FOREIGN KEY (x, y) REFERENCES a (x));", 0, api.ErrInvalid}, "invalid before exists": {"CREATE TABLE a (x INTEGER, x INTEGER(2, 1));", 0, api.ErrInvalid},
		"same table": {"CREATE TABLE a (x INTEGER); CREATE TABLE a (x INTEGER);", 1, api.ErrExists}, "same column": {"CREATE TABLE a (x INTEGER, x TEXT);", 0, api.ErrExists}, "key twice": {"CREATE TABLE a (x INTEGER, UNIQUE (x, x));", 0, api.ErrExists}, "unknown twice": {"CREATE TABLE a (x INTEGER, UNIQUE (y, y));", 0, api.ErrExists}, "equal keys": {"CREATE TABLE a (x INTEGER, y INTEGER, UNIQUE (x, y), UNIQUE (x), UNIQUE (x, y));", 0, api.ErrExists}, "foreign twice": {"CREATE TABLE a (x INTEGER, y INTEGER, UNIQUE (x, y), FOREIGN KEY (x, x) REFERENCES a (x, y));", 0, api.ErrExists}, "exists before not found": {"CREATE TABLE a (x INTEGER, UNIQUE (z), x INTEGER);", 0, api.ErrExists},
		"key": {"CREATE TABLE a (x INTEGER, UNIQUE (y));", 0, api.ErrNotFound}, "foreign column": {"CREATE TABLE a (x INTEGER, UNIQUE (x), FOREIGN KEY (y) REFERENCES a (x));", 0, api.ErrNotFound}, "foreign table": {"CREATE TABLE a (x INTEGER, FOREIGN KEY (x) REFERENCES b (x));", 0, api.ErrNotFound}, "later table": {"CREATE TABLE b (y INTEGER, FOREIGN KEY (y) REFERENCES a (x)); CREATE TABLE a (x INTEGER(0, 9), UNIQUE (x));", 0, api.ErrNotFound}, "no key": {"CREATE TABLE a (x INTEGER, FOREIGN KEY (x) REFERENCES a (x));", 0, api.ErrNotFound}, "other order": {"CREATE TABLE a (x INTEGER, y INTEGER, UNIQUE (x, y), FOREIGN KEY (x, y) REFERENCES a (y, x));", 0, api.ErrNotFound}, "target column": {"CREATE TABLE a (x INTEGER, UNIQUE (x), FOREIGN KEY (x) REFERENCES a (z));", 0, api.ErrNotFound}, "target repeated": {"CREATE TABLE a (x INTEGER, y INTEGER, UNIQUE (x), FOREIGN KEY (x, y) REFERENCES a (x, x));", 0, api.ErrNotFound}, "not found before type": {"CREATE TABLE a (x INTEGER, t TEXT, UNIQUE (x), FOREIGN KEY (t) REFERENCES a (x), FOREIGN KEY (x) REFERENCES a (t));", 0, api.ErrNotFound},
		"type": {"CREATE TABLE a (x INTEGER, UNIQUE (x)); CREATE TABLE b (y TEXT, FOREIGN KEY (y) REFERENCES a (x));", 1, api.ErrType}, "second type": {"CREATE TABLE a (x INTEGER, y TEXT, UNIQUE (x, y), FOREIGN KEY (y, x) REFERENCES a (x, y));", 0, api.ErrType},
	} {
		if s, at, e := Build(script(t, c.s)); s != nil || at != c.at || e != c.e {
			t.Errorf("%s: %v, %d, %d", what, s, at, e)
		}
	}
	var nineTables strings.Builder
	for _, n := range "abcdefghi" {
		nineTables.WriteString("CREATE TABLE " + string(n) + " (x INTEGER);")
	}
	l := script(t, nineTables.String())
	if s, at, e := Build(l); s != nil || at != 8 || e != api.ErrTooLarge {
		t.Errorf("nine tables: %d, %d", at, e)
	}
	if s, _, e := Build(l[:8]); len(s) != 8 || e != api.OK {
		t.Errorf("eight tables: %d", e)
	}
	l[8] = api.Statement{}
	if _, at, e := Build(l); at != 8 || e != api.ErrInvalid {
		t.Errorf("the ninth is no table: %d, %d", at, e)
	}
}

func TestBuildInvalidNames(t *testing.T) {
	column := api.Column{Name: "x", Type: api.Integer}
	for what, st := range map[string]api.Statement{
		"table": {Table: "A", Create: api.Definition{Columns: []api.Column{column}}}, "keyword": {Table: "table", Create: api.Definition{Columns: []api.Column{column}}}, "column": {Table: "a", Create: api.Definition{Columns: []api.Column{{Name: "X", Type: api.Integer}}}}, "type": {Table: "a", Create: api.Definition{Columns: []api.Column{{Name: "x", Type: api.Boolean}}}}, "max": {Table: "a", Create: api.Definition{Columns: []api.Column{{Name: "x", Type: api.Integer, Max: 1}}}}, "low of a text": {Table: "a", Create: api.Definition{Columns: []api.Column{{Name: "x", Type: api.Text, Max: 1, Low: 1}}}},
		"empty key": {Table: "a", Create: api.Definition{Columns: []api.Column{column}, Keys: [][]string{{}}}}, "empty foreign key": {Table: "a", Create: api.Definition{Columns: []api.Column{column}, Foreign: []api.Reference{{Table: "a"}}}},
	} {
		st.Kind = api.StmtCreate
		if _, at, e := Build([]api.Statement{st}); at != 0 || e != api.ErrInvalid {
			t.Errorf("%s: %d, %d", what, at, e)
		}
	}
}

func TestInvalidSchemas(t *testing.T) {
	for what, change := range map[string]func(s api.Schema){
		"name": func(s api.Schema) { s[0].Name = "" }, "same name": func(s api.Schema) { s[2].Name = "owner" }, "no columns": func(s api.Schema) { s[2].Columns, s[2].Foreign = nil, nil }, "column name": func(s api.Schema) { s[0].Columns[0].Name = "key" }, "same columns": func(s api.Schema) { s[0].Columns[1].Name = "id" },
		"low": func(s api.Schema) { s[0].Columns[0].Low = 100 }, "below": func(s api.Schema) { s[0].Columns[0].Low = api.MinInteger - 1 }, "above": func(s api.Schema) { s[0].Columns[0].High = api.MaxInteger + 1 }, "max": func(s api.Schema) { s[0].Columns[0].Max = 1 }, "text low": func(s api.Schema) { s[0].Columns[1].Low = 1 }, "text high": func(s api.Schema) { s[0].Columns[1].High = 1 }, "text max": func(s api.Schema) { s[0].Columns[1].Max = 0 }, "type": func(s api.Schema) { s[2].Columns[0].Type = 0 },
		"nine columns": func(s api.Schema) {
			for _, n := range "abcdefgh" {
				s[2].Columns = append(s[2].Columns, api.Column{Name: string(n), Type: api.Integer})
			}
		},
		"five keys": func(s api.Schema) { s[1].Keys = [][]int{{1}, {0}, {2}, {3}, {0, 1}} }, "equal keys": func(s api.Schema) { s[0].Keys = [][]int{{0}, {1, 0}, {0}} }, "empty key": func(s api.Schema) { s[2].Keys = [][]int{{}} }, "key column": func(s api.Schema) { s[2].Keys = [][]int{{1}} }, "negative key column": func(s api.Schema) { s[2].Keys = [][]int{{-1}} }, "repeated key column": func(s api.Schema) { s[2].Keys = [][]int{{0, 0}} },
		"foreign column": func(s api.Schema) { s[2].Foreign[0].Columns = []int{1} }, "foreign without columns": func(s api.Schema) { s[2].Foreign[0].Columns = nil }, "foreign repeats": func(s api.Schema) { s[1].Foreign[1].Columns = []int{1, 1} }, "later table": func(s api.Schema) { s[1].Foreign[0].Table = 2 }, "negative table": func(s api.Schema) { s[1].Foreign[0].Table = -1 }, "no table": func(s api.Schema) { s[1].Foreign[0].Table = 3 }, "no key": func(s api.Schema) { s[1].Foreign[0].Key = 2 }, "negative key": func(s api.Schema) { s[1].Foreign[0].Key = -1 }, "length": func(s api.Schema) { s[1].Foreign[0].Key = 1 }, "types": func(s api.Schema) { s[1].Foreign[1].Columns = []int{0, 1} }, "no type": func(s api.Schema) { s[1].Foreign[0].Columns = []int{1} },
		"five foreign keys": func(s api.Schema) {
			f := s[2].Foreign[0]
			s[2].Foreign = []api.Foreign{f, f, f, f, f}
		},
		"five checks": func(s api.Schema) { s[0].Checks = make([]api.Expr, 5) },
	} {
		s := build(t, shop)
		change(s)
		if Valid(s) {
			t.Errorf("%s: the schema is valid", what)
		}
	}
	s := build(t, shop)
	s[0].Checks = make([]api.Expr, 4)
	f := s[2].Foreign[0]
	s[2].Foreign = []api.Foreign{f, f, f, f}
	s[1].Keys = [][]int{{1}, {0, 1}, {1, 0}, {2}}
	if !Valid(s) {
		t.Error("a schema within the limits is not valid")
	}
	var many api.Schema
	for _, n := range "abcdefghi" {
		many = append(many, api.Table{Name: string(n), Columns: []api.Column{{Name: "x", Type: api.Integer}}})
	}
	if Valid(many) || !Valid(many[:8]) {
		t.Error("the number of tables")
	}
}

func TestQuestions(t *testing.T) {
	s := build(t, shop)
	for name, want := range map[string]int{"owner": 0, "item": 1, "other": 2} {
		if n, ok := Find(s, name); n != want || !ok {
			t.Errorf("Find(%q) = %d, %v", name, n, ok)
		}
	}
	for _, name := range []string{"", "Owner", "x"} {
		if n, ok := Find(s, name); n != 0 || ok {
			t.Errorf("Find(%q) = %d, %v", name, n, ok)
		}
	}
	if n, ok := Column(s[1], "next"); n != 3 || !ok {
		t.Errorf("Column = %d, %v", n, ok)
	}
	if n, ok := Column(s[1], "id"); n != 0 || ok {
		t.Errorf("Column = %d, %v", n, ok)
	}
	want := []api.Variable{{Type: api.Integer, Low: -1 << 31, High: 1<<31 - 1, Nullable: true}, {Type: api.Text, Max: 16, Nullable: true}, {Type: api.Integer, Low: -5, High: 5}, {Type: api.Text, Max: 16, Nullable: true}}
	if got := Variables(s[1]); !slices.Equal(got, want) {
		t.Errorf("Variables = %v", got)
	}
	for table, want := range map[int][][2]int{0: {{1, 0}, {1, 1}, {2, 0}}, 1: {{1, 2}}, 2: nil, -1: nil, 9: nil} {
		if got := Referring(s, table); !slices.Equal(got, want) {
			t.Errorf("Referring(%d) = %v", table, got)
		}
	}
}

func TestFits(t *testing.T) {
	s := build(t, shop)
	null := api.Value{}
	for _, c := range []struct {
		r    api.Row
		want api.Errno
	}{
		{api.Row{value.Int(3), value.Text("a"), value.Int(5), null}, api.OK}, {api.Row{null, null, value.Int(-5), value.Text("")}, api.OK},
		{nil, api.ErrInvalid}, {api.Row{null, null, value.Int(0)}, api.ErrInvalid}, {api.Row{null, null, value.Int(0), null, null}, api.ErrInvalid}, {api.Row{null, null, null}, api.ErrInvalid},
		{api.Row{null, null, null, null}, api.ErrNull}, {api.Row{value.Text("a"), null, null, null}, api.ErrNull}, {api.Row{null, null, {Int: 3}, null}, api.ErrNull},
		{api.Row{null, null, value.Int(6), null}, api.ErrRange}, {api.Row{null, null, value.Int(-6), null}, api.ErrRange}, {api.Row{null, value.Int(1), value.Int(0), null}, api.ErrRange}, {api.Row{{Int: 3}, null, value.Int(0), null}, api.ErrRange}, {api.Row{null, value.Text("\n"), value.Int(0), null}, api.ErrRange}, {api.Row{null, null, value.Text("a"), null}, api.ErrRange}, {api.Row{value.Int(1 << 31), null, value.Int(0), null}, api.ErrRange}, {api.Row{null, null, value.Int(0), value.Text("seventeen letters")}, api.ErrRange},
	} {
		if e := Fits(s[1], c.r); e != c.want {
			t.Errorf("Fits(%v) = %d, want %d", c.r, e, c.want)
		}
	}
	if Fits(s[0], api.Row{value.Int(1), value.Text("nine char")}) != api.ErrRange || Fits(s[0], api.Row{value.Int(1), value.Text("eight ch")}) != api.OK {
		t.Error("the length of a text")
	}
}

func TestExample(t *testing.T) {
	s := build(t, "CREATE TABLE a (x INTEGER(0, 9), UNIQUE (x)); CREATE TABLE b (y INTEGER, FOREIGN KEY (y) REFERENCES a (x));")
	if f := s[1].Foreign[0]; !slices.Equal(f.Columns, []int{0}) || f.Table != 0 || f.Key != 0 || !slices.Equal(Referring(s, 0), [][2]int{{1, 0}}) {
		t.Errorf("the foreign key is %v", f)
	}
}
