package aggregate

import (
	"math"
	"math/rand"
	"slices"
	"testing"

	"disjoint/api"
	"disjoint/binder"
	"disjoint/parser"
	"disjoint/schema"
	"disjoint/value"
)

var null = api.Value{}

func bind(t *testing.T, text string) api.Bound {
	t.Helper()
	l, _, e := parser.Script("CREATE TABLE t (a INTEGER, b INTEGER, s TEXT);")
	if e != api.OK {
		t.Fatal(e)
	}
	s, _, _ := schema.Build(l)
	st, offset, e := parser.Statement(text)
	if e != api.OK {
		t.Fatalf("%q: %d at %d", text, e, offset)
	}
	b, e := binder.Bind(s, st)
	if e != api.OK {
		t.Fatalf("%q: %d", text, e)
	}
	return b
}

func ints(l ...int64) []api.Value {
	var r []api.Value
	for _, n := range l {
		r = append(r, value.Int(n))
	}
	return r
}

func row(a, b int64, s string) api.Row {
	return api.Row{value.Int(a), value.Int(b), value.Text(s)}
}

var rows = []api.Row{row(2, 5, "x"), row(1, 7, "y"), row(2, 3, "y"), {null, value.Int(4), value.Text("x")}, {value.Int(1), null, null}, {null, null, value.Text("z")}, row(2, 5, "x")}

func equal(a, b []api.Row) bool {
	return slices.EqualFunc(a, b, func(x, y api.Row) bool { return value.CompareRows(x, y) == 0 })
}

func texts(l []api.Row) string {
	s := ""
	for _, r := range l {
		s += value.FormatRow(r)
	}
	return s
}

func TestAggregate(t *testing.T) {
	mixed := []api.Value{value.Int(3), null, value.Int(5), value.Int(3)}
	words := []api.Value{value.Text("b"), null, value.Text("a"), value.Text("ab")}
	for i, c := range []struct {
		kind int
		l    []api.Value
		want api.Value
	}{
		{api.AggRows, mixed, value.Int(4)}, {api.AggCount, mixed, value.Int(3)}, {api.AggSum, mixed, value.Int(11)}, {api.AggMin, mixed, value.Int(3)}, {api.AggMax, mixed, value.Int(5)},
		{api.AggRows, nil, value.Int(0)}, {api.AggCount, nil, value.Int(0)}, {api.AggSum, nil, null}, {api.AggMin, nil, null}, {api.AggMax, nil, null},
		{api.AggRows, []api.Value{null}, value.Int(1)}, {api.AggCount, []api.Value{null}, value.Int(0)}, {api.AggSum, []api.Value{null, null}, null}, {api.AggMin, []api.Value{null}, null}, {api.AggMax, []api.Value{null}, null},
		{api.AggMin, words, value.Text("a")}, {api.AggMax, words, value.Text("b")}, {api.AggCount, words, value.Int(3)}, {api.AggSum, ints(math.MaxInt64, 1), value.Int(math.MinInt64)}, {api.AggSum, ints(-5, 5), value.Int(0)}, {api.AggSum, []api.Value{value.Text("a")}, value.Int(0)}, {api.AggMin, []api.Value{value.Text(""), value.Int(9)}, value.Int(9)},
		{api.AggNone, mixed, null}, {6, mixed, null}, {-1, mixed, null},
	} {
		if got := Aggregate(c.kind, c.l); got != c.want {
			t.Errorf("case %d: %v, want %v", i, got, c.want)
		}
	}
	if !slices.Equal(mixed, []api.Value{value.Int(3), null, value.Int(5), value.Int(3)}) {
		t.Error("the argument is changed")
	}
}

func TestResult(t *testing.T) {
	for text, want := range map[string]string{
		"SELECT * FROM t":                                                "(NULL, NULL, 'z')(NULL, 4, 'x')(1, NULL, NULL)(1, 7, 'y')(2, 3, 'y')(2, 5, 'x')(2, 5, 'x')",
		"SELECT * FROM t ORDER BY 3 DESC, 2":                             "(NULL, NULL, 'z')(2, 3, 'y')(1, 7, 'y')(NULL, 4, 'x')(2, 5, 'x')(2, 5, 'x')(1, NULL, NULL)",
		"SELECT * FROM t ORDER BY 1 DESC LIMIT 2":                        "(2, 3, 'y')(2, 5, 'x')",
		"SELECT * FROM t LIMIT 100":                                      "(NULL, NULL, 'z')(NULL, 4, 'x')(1, NULL, NULL)(1, 7, 'y')(2, 3, 'y')(2, 5, 'x')(2, 5, 'x')",
		"SELECT a + b, s FROM t":                                         "(NULL, NULL)(NULL, 'x')(NULL, 'z')(5, 'y')(7, 'x')(7, 'x')(8, 'y')",
		"SELECT 1 FROM t LIMIT 3":                                        "(1)(1)(1)",
		"SELECT COUNT(*), COUNT(a), SUM(b), MIN(s), MAX(b) FROM t":       "(7, 5, 24, 'x', 7)",
		"SELECT a, COUNT(*), SUM(b), MAX(s) FROM t GROUP BY a":           "(NULL, 2, 4, 'z')(1, 2, 7, 'y')(2, 3, 13, 'y')",
		"SELECT COUNT(*) FROM t GROUP BY a, s":                           "(1)(1)(1)(1)(1)(2)",
		"SELECT s, a FROM t GROUP BY a, s":                               "(NULL, 1)('x', NULL)('x', 2)('y', 1)('y', 2)('z', NULL)",
		"SELECT a FROM t GROUP BY a ORDER BY 1 DESC":                     "(2)(1)(NULL)",
		"SELECT MIN(a - b), s FROM t GROUP BY s ORDER BY 2 DESC LIMIT 3": "(NULL, 'z')(-6, 'y')(-3, 'x')",
		"SELECT SUM(NULL), MAX(NULL), COUNT(NULL) FROM t":                "(NULL, NULL, 0)",
	} {
		b := bind(t, text)
		for range 3 {
			if got := texts(Result(b, slices.Values(rows))); got != want {
				t.Errorf("%s: %s", text, got)
			}
		}
	}
}

func TestWithoutCombinations(t *testing.T) {
	for text, want := range map[string]string{
		"SELECT * FROM t": "", "SELECT a FROM t": "", "SELECT COUNT(*), SUM(a) FROM t": "(0, NULL)", "SELECT COUNT(*), SUM(a) FROM t GROUP BY a": "", "SELECT a FROM t GROUP BY a": "", "SELECT MIN(s) FROM t LIMIT 1": "(NULL)",
	} {
		b := bind(t, text)
		if got := texts(Result(b, nil)); got != want {
			t.Errorf("%s: %s", text, got)
		}
		if got := texts(Result(b, slices.Values([]api.Row(nil)))); got != want {
			t.Errorf("%s: %s", text, got)
		}
	}
}

func TestGroups(t *testing.T) {
	b := bind(t, "SELECT a FROM t GROUP BY a")
	want := [][]api.Row{{rows[3], rows[5]}, {rows[1], rows[4]}, {rows[0], rows[2], rows[6]}}
	got := Groups(b, rows)
	if !slices.EqualFunc(got, want, equal) {
		t.Errorf("Groups = %v", got)
	}
	two := bind(t, "SELECT COUNT(*) FROM t GROUP BY s, a")
	if got = Groups(two, rows); len(got) != 6 || !equal(got[0], rows[4:5]) || !equal(got[2], []api.Row{rows[0], rows[6]}) {
		t.Errorf("Groups = %v", got)
	}
	plain := bind(t, "SELECT COUNT(*) FROM t")
	if got = Groups(plain, rows); len(got) != 1 || !equal(got[0], rows) {
		t.Errorf("Groups = %v", got)
	}
	if got = Groups(plain, nil); len(got) != 1 || len(got[0]) != 0 || len(Groups(b, nil)) != 0 {
		t.Errorf("Groups of nothing = %v", got)
	}
}

func TestSort(t *testing.T) {
	l := []api.Row{ints(2, 1), ints(1, 9), {null, value.Int(3)}, ints(2, 0), {value.Int(1), null}}
	for i, c := range []struct {
		order []api.Order
		want  string
	}{{nil, "(NULL, 3)(1, NULL)(1, 9)(2, 0)(2, 1)"}, {[]api.Order{{Item: 1, Descending: true}}, "(2, 0)(2, 1)(1, NULL)(1, 9)(NULL, 3)"}, {[]api.Order{{Item: 2}}, "(1, NULL)(2, 0)(2, 1)(NULL, 3)(1, 9)"}, {[]api.Order{{Item: 1, Descending: true}, {Item: 2, Descending: true}}, "(2, 1)(2, 0)(1, 9)(1, NULL)(NULL, 3)"}, {[]api.Order{{Item: 1}, {Item: 1, Descending: true}}, "(NULL, 3)(1, NULL)(1, 9)(2, 0)(2, 1)"}} {
		if got := texts(Sort(l, c.order)); got != c.want {
			t.Errorf("case %d: %s", i, got)
		}
	}
	if len(Sort(nil, nil)) != 0 || texts(l[:1]) != "(2, 1)" {
		t.Error("Sort")
	}
}

// The order of the combinations makes no difference.
func TestOrderOfCombinations(t *testing.T) {
	r := rand.New(rand.NewSource(80))
	for _, text := range []string{"SELECT * FROM t ORDER BY 2 DESC LIMIT 4", "SELECT s, COUNT(*), SUM(a), MIN(b) FROM t GROUP BY s ORDER BY 2", "SELECT a + b FROM t LIMIT 3", "SELECT SUM(a), MAX(s) FROM t"} {
		b := bind(t, text)
		want := texts(Result(b, slices.Values(rows)))
		for range 20 {
			l := slices.Clone(rows)
			r.Shuffle(len(l), func(i, j int) { l[i], l[j] = l[j], l[i] })
			if got := texts(Result(b, slices.Values(l))); got != want {
				t.Fatalf("%s: %s and %s", text, got, want)
			}
		}
	}
}

func TestNoSharing(t *testing.T) {
	l := []api.Row{row(1, 2, "a")}
	b := bind(t, "SELECT * FROM t")
	yields := 0
	once := func(yield func(api.Row) bool) {
		yields++
		for _, r := range l {
			if !yield(r) {
				return
			}
		}
	}
	Result(b, once)[0][0] = value.Int(9)
	Sort(l, nil)[0][0] = value.Int(9)
	Groups(b, l)[0][0][0] = value.Int(9)
	Groups(bind(t, "SELECT a FROM t GROUP BY a"), l)[0][0][0] = value.Int(9)
	if l[0][0] != value.Int(1) || yields != 1 {
		t.Errorf("rows: %v, %d iterations", l, yields)
	}
	// The iterator can use the memory of a row again.
	shared := make(api.Row, 3)
	reuse := func(yield func(api.Row) bool) {
		for n := range int64(3) {
			copy(shared, row(n, 0, ""))
			if !yield(shared) {
				return
			}
		}
	}
	if got := texts(Result(b, reuse)); got != "(0, 0, '')(1, 0, '')(2, 0, '')" {
		t.Errorf("Result = %s", got)
	}
}
