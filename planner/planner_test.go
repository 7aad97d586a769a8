package planner

import (
	"math/rand"
	"reflect"
	"slices"
	"strings"
	"testing"

	"disjoint/api"
	"disjoint/ast"
	"disjoint/binder"
	"disjoint/copies"
	"disjoint/parser"
	"disjoint/plan"
	"disjoint/schema"
)

const tables = `
CREATE TABLE account (id INTEGER, owner INTEGER, balance INTEGER, name TEXT, PRIMARY KEY (id), UNIQUE (owner, name));
CREATE TABLE other (k INTEGER, ref INTEGER, label TEXT, UNIQUE (k, label), FOREIGN KEY (ref) REFERENCES account (id));
CREATE TABLE free (x INTEGER, y INTEGER);`

func build(t *testing.T) api.Schema {
	t.Helper()
	l, offset, e := parser.Script(tables)
	if e != api.OK {
		t.Fatalf("%d at %d", e, offset)
	}
	s, _, e := schema.Build(l)
	if e != api.OK {
		t.Fatal(e)
	}
	return s
}

func bind(t *testing.T, s api.Schema, text string) api.Bound {
	t.Helper()
	st, offset, e := parser.Statement(text)
	if e != api.OK {
		t.Fatalf("%q: %d at %d", text, e, offset)
	}
	b, e := binder.Bind(s, st)
	if e != api.OK {
		t.Fatalf("%q: %d", text, e)
	}
	return b
}

func texts(s api.Schema, b api.Bound, l []api.Plan) []string {
	var r []string
	for _, p := range l {
		r = append(r, plan.Format(s, b, p))
	}
	return r
}

func TestCandidates(t *testing.T) {
	s := build(t)
	for text, want := range map[string][]string{
		"SELECT * FROM free":                          {"SCAN free"},
		"DELETE FROM free WHERE NULL":                 {"FILTER (SCAN free) BY NULL"},
		"UPDATE free SET x = 1 WHERE y = 2 AND 3 = x": {"FILTER (SCAN free) BY y = 2 AND 3 = x", "FILTER (LOOKUP free (x = 3, y = 2)) BY y = 2 AND 3 = x"},
		"SELECT * FROM free WHERE y < 5 AND x > 1 AND 7 >= x AND x >= 2 AND x <= 8": {"FILTER (SCAN free) BY y < 5 AND x > 1 AND 7 >= x AND x >= 2 AND x <= 8", "FILTER (RANGE free (x >= 1, x <= 7)) BY y < 5 AND x > 1 AND 7 >= x AND x >= 2 AND x <= 8"},
		"SELECT * FROM free WHERE x = 1 AND y <= 2":                                 {"FILTER (SCAN free) BY x = 1 AND y <= 2", "FILTER (LOOKUP free (x = 1)) BY x = 1 AND y <= 2", "FILTER (RANGE free (y <= 2)) BY x = 1 AND y <= 2"},
		"SELECT * FROM free WHERE x = y":                                            {"FILTER (SCAN free) BY x = y"},
		"SELECT * FROM free WHERE x = 1 OR y = 2":                                   {"FILTER (SCAN free) BY x = 1 OR y = 2"},
		"SELECT * FROM free WHERE x = 1 AND x = 2":                                  {"FILTER (SCAN free) BY x = 1 AND x = 2", "FILTER (LOOKUP free (x = 1)) BY x = 1 AND x = 2"},
		"SELECT * FROM free AS a, free AS b":                                        {"JOIN (SCAN a) (SCAN b)", "JOIN (SCAN b) (SCAN a)"},
		"SELECT * FROM account AS a, account AS b WHERE a.id = 7 AND b.owner = a.owner": {
			"FILTER (JOIN (FILTER (SCAN a) BY a.id = 7) (SCAN b)) BY b.owner = a.owner", "FILTER (JOIN (FILTER (SCAN a) BY a.id = 7) (LOOKUP b (owner = a.owner))) BY b.owner = a.owner",
			"FILTER (JOIN (FILTER (LOOKUP a (id = 7)) BY a.id = 7) (SCAN b)) BY b.owner = a.owner", "FILTER (JOIN (FILTER (LOOKUP a (id = 7)) BY a.id = 7) (LOOKUP b (owner = a.owner))) BY b.owner = a.owner",
			"FILTER (JOIN (SCAN b) (SCAN a)) BY a.id = 7 AND b.owner = a.owner", "FILTER (JOIN (SCAN b) (LOOKUP a (id = 7, owner = b.owner))) BY a.id = 7 AND b.owner = a.owner",
		},
		"SELECT * FROM free AS a, free AS b WHERE a.x <= b.y AND 1 = 2": {
			"FILTER (JOIN (FILTER (SCAN a) BY 1 = 2) (SCAN b)) BY a.x <= b.y", "FILTER (JOIN (FILTER (SCAN a) BY 1 = 2) (RANGE b (y >= a.x))) BY a.x <= b.y",
			"FILTER (JOIN (FILTER (SCAN b) BY 1 = 2) (SCAN a)) BY a.x <= b.y", "FILTER (JOIN (FILTER (SCAN b) BY 1 = 2) (RANGE a (x <= b.y))) BY a.x <= b.y",
		},
	} {
		b := bind(t, s, text)
		if got := texts(s, b, Candidates(s, b)); !slices.Equal(got, want) {
			t.Errorf("%s:\n%s", text, strings.Join(got, "\n"))
		}
	}
}

func TestThreeSources(t *testing.T) {
	s := build(t)
	b := bind(t, s, "SELECT * FROM free AS a, free AS b, free AS c WHERE a.x = b.x AND b.y = c.y AND a.y + c.x = 4")
	l := texts(s, b, Candidates(s, b))
	// Of the orders, those in which b is not the last source have two options for two sources, and the others for one.
	if len(l) != 4+2+4+4+2+4 {
		t.Fatalf("%d candidates", len(l))
	}
	if l[3] != "FILTER (JOIN (FILTER (JOIN (SCAN a) (LOOKUP b (x = a.x))) BY a.x = b.x) (LOOKUP c (y = b.y))) BY b.y = c.y AND a.y + c.x = 4" || l[5] != "FILTER (JOIN (FILTER (JOIN (SCAN a) (SCAN c)) BY a.y + c.x = 4) (LOOKUP b (x = a.x, y = c.y))) BY a.x = b.x AND b.y = c.y" {
		t.Errorf("candidates: %s\n%s", l[3], l[5])
	}
}

func TestKeys(t *testing.T) {
	s := build(t)
	b := bind(t, s, "SELECT * FROM free AS a, account AS b WHERE b.id = a.x AND b.id = 5 AND a.y = b.owner AND 'n' = b.name AND b.balance = b.id AND b.owner = 3 AND b.owner > 2")
	for i, c := range []struct {
		source  int
		known   []int
		columns []int
		keys    []string
	}{{1, nil, []int{0, 1, 3}, []string{"5", "3", "'n'"}}, {1, []int{0}, []int{0, 1, 3}, []string{"a.x", "a.y", "'n'"}}, {0, nil, nil, nil}, {0, []int{1}, []int{0, 1}, []string{"b.id", "b.owner"}}} {
		columns, keys := Keys(s, b, c.source, c.known)
		var got []string
		for _, k := range keys {
			text, _ := ast.FormatExpr(k)
			got = append(got, text)
		}
		if !slices.Equal(columns, c.columns) || !slices.Equal(got, c.keys) {
			t.Errorf("case %d: Keys = %v, %q", i, columns, got)
		}
	}
	// Of a comparison of two columns, the right one is tried as the key first.
	both := bind(t, s, "SELECT * FROM free AS a, free AS b, free AS c WHERE a.x = b.x")
	if columns, keys := Keys(s, both, 1, []int{0, 2}); !slices.Equal(columns, []int{0}) || keys[0].Table != "a" {
		t.Errorf("Keys = %v, %v", columns, keys)
	}
}

func TestCost(t *testing.T) {
	s := build(t)
	for i, c := range []struct {
		text   string
		number int // of the candidate
		counts []int
		want   int64
	}{
		{"SELECT * FROM free", 0, []int{7}, 7}, {"SELECT * FROM free", 0, nil, 0}, {"SELECT * FROM free", 0, []int{-4}, 0}, {"SELECT * FROM free", 0, []int{1000001}, 1000000},
		{"SELECT * FROM free WHERE x = 1", 0, []int{7}, 14}, {"SELECT * FROM free WHERE x = 1", 1, []int{25}, 25 + 3},
		// A key: one row at most, and two with an index.
		{"SELECT * FROM account WHERE id = 1", 1, []int{25}, 2 + 1}, {"SELECT * FROM account WHERE id = 1", 1, []int{0}, 1 + 0}, {"SELECT * FROM account WHERE id = 1 AND balance = 2", 1, []int{25}, 3}, {"SELECT * FROM account WHERE owner = 1", 1, []int{25}, 25 + 3}, {"SELECT * FROM account WHERE owner = 1 AND name = 'a'", 1, []int{25}, 3}, {"SELECT * FROM account WHERE owner = 1 AND balance = 2", 1, []int{21}, 21 + 3},
		// A foreign key is an index, but no key.
		{"SELECT * FROM other WHERE ref = 1", 1, []int{25}, 4 + 3}, {"SELECT * FROM other WHERE ref = 1 AND k = 2", 1, []int{30}, 4 + 3},
		{"SELECT * FROM account WHERE id >= 1", 1, []int{25}, 10 + 9}, {"SELECT * FROM account WHERE id >= 1 AND id < 9", 1, []int{26}, 7 + 6}, {"SELECT * FROM account WHERE owner >= 1", 1, []int{25}, 25 + 9}, {"SELECT * FROM account WHERE balance < 1 AND balance > 0", 1, []int{25}, 25 + 5}, {"SELECT * FROM other WHERE ref < 1", 1, []int{4}, 3 + 2}, {"SELECT * FROM other WHERE k < 1", 1, []int{4}, 4 + 2},
		{"SELECT * FROM free AS a, free AS b", 0, []int{5, 7}, 5 + 5*7}, {"SELECT * FROM free AS a, free AS b", 1, []int{5, 7}, 7 + 7*5},
		// The filter halves 9 rows twice: 5, 3.
		{"SELECT * FROM free AS a, free AS b WHERE a.x > 1 AND a.y < 2", 0, []int{9, 7}, 9 + 9 + 3*7},
		{"SELECT * FROM free AS a, free AS b, free AS c", 0, []int{1000000, 1000000, 1000000}, 1 << 40}, {"SELECT * FROM free AS a, free AS b, free AS c WHERE a.x + b.x = 1", 0, []int{1000000, 1000000, 0}, 1000000 + 1000000*1000000 + 1000000*1000000},
	} {
		b := bind(t, s, c.text)
		want := min(c.want, 1<<40)
		if got := Cost(s, b, Candidates(s, b)[c.number], c.counts); got != want {
			t.Errorf("case %d: the cost is %d, want %d", i, got, want)
		}
	}
}

func TestChoose(t *testing.T) {
	s := build(t)
	for _, c := range []struct {
		text   string
		counts []int
		want   string
	}{
		{"SELECT * FROM account WHERE id = 1", []int{100}, "FILTER (LOOKUP account (id = 1)) BY id = 1"}, {"SELECT * FROM account WHERE id = 1", []int{0}, "FILTER (SCAN account) BY id = 1"}, {"SELECT * FROM free WHERE x = 1", []int{1}, "FILTER (SCAN free) BY x = 1"}, {"SELECT * FROM free WHERE x = 1", []int{9}, "FILTER (LOOKUP free (x = 1)) BY x = 1"}, {"SELECT * FROM free AS a, free AS b", []int{9, 2}, "JOIN (SCAN b) (SCAN a)"}, {"SELECT * FROM free AS a, free AS b", []int{2, 2}, "JOIN (SCAN a) (SCAN b)"},
		{"SELECT * FROM other AS o, account AS a WHERE o.ref = a.id AND a.balance > 5", []int{1000, 50}, "FILTER (JOIN (FILTER (RANGE a (balance >= 5)) BY a.balance > 5) (LOOKUP o (ref = a.id))) BY o.ref = a.id"},
	} {
		b := bind(t, s, c.text)
		if got := plan.Format(s, b, Choose(s, b, c.counts)); got != c.want {
			t.Errorf("%s: %s", c.text, got)
		}
	}
}

// All candidates are valid, and the chosen one has the least cost.
func TestValid(t *testing.T) {
	s := build(t)
	r := rand.New(rand.NewSource(76))
	conditions := []string{"a.x = b.x", "a.x < b.y", "b.y >= 3", "a.x = 4", "b.x + a.y = 7", "c.ref = a.x", "c.k >= b.x", "c.label = 'x'", "c.label < 'y'", "NULL", "1 = 1", "a.y = a.x", "b.x = 2 OR a.x = 1", "c.k = b.x + a.x", "a.x > 3 AND a.x <= 9", "NOT b.y = 1", "b.y = c.ref", "5 > a.y"}
	for range 300 {
		text := "SELECT * FROM free AS a, free AS b, other AS c"
		for i := range r.Intn(6) {
			text += []string{" WHERE ", " AND "}[min(i, 1)] + conditions[r.Intn(len(conditions))]
		}
		b := bind(t, s, text)
		kept := copies.Statement(b.Statement)
		counts := []int{r.Intn(50), r.Intn(50), r.Intn(50)}
		chosen := Choose(s, b, counts)
		first := true
		for _, p := range Candidates(s, b) {
			if !plan.Valid(s, b, p) {
				t.Fatalf("%s: %s is not valid", text, plan.Format(s, b, p))
			}
			c, least := Cost(s, b, p, counts), Cost(s, b, chosen, counts)
			if c < least || c == least && first && plan.Format(s, b, p) != plan.Format(s, b, chosen) {
				t.Fatalf("%s: %s is cheaper", text, plan.Format(s, b, p))
			}
			first = first && c > least
			for i := range p.Args {
				p.Args[i] = api.Plan{}
			}
		}
		if !reflect.DeepEqual(b.Statement, kept) {
			t.Fatal("the statement is changed, or shares memory with a plan")
		}
	}
}
