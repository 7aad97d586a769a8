package plan

import (
	"reflect"
	"slices"
	"testing"

	"disjoint/api"
	"disjoint/ast"
	"disjoint/binder"
	"disjoint/copies"
	"disjoint/parser"
	"disjoint/schema"
)

func build(t *testing.T) api.Schema {
	t.Helper()
	l, _, e := parser.Script("CREATE TABLE a (x INTEGER, y TEXT, z INTEGER); CREATE TABLE b (x INTEGER, y INTEGER);")
	if e != api.OK {
		t.Fatal(e)
	}
	s, _, e := schema.Build(l)
	if e != api.OK {
		t.Fatal(e)
	}
	return s
}

func bind(t *testing.T, s api.Schema, text string) api.Bound {
	t.Helper()
	st, offset, e := parser.Statement(text)
	if e != api.OK {
		t.Fatalf("%q: %d at %d", text, e, offset)
	}
	b, e := binder.Bind(s, st)
	if e != api.OK {
		t.Fatalf("%q: %d", text, e)
	}
	return b
}

// The variables of the statement are a.x, a.y, a.z, b.x, b.y: 0 to 4.
const text = "SELECT * FROM a, b AS c WHERE a.x = c.y AND a.z > 5 AND c.x <= 7 AND 3 = a.z AND a.y LIKE 'q%' AND a.z >= c.x"

func scan(i int) api.Plan { return api.Plan{Kind: api.PlanScan, Source: i} }

func join(p, q api.Plan) api.Plan { return api.Plan{Kind: api.PlanJoin, Args: []api.Plan{p, q}} }

func filter(p api.Plan, e api.Expr) api.Plan {
	return api.Plan{Kind: api.PlanFilter, Filter: e, Args: []api.Plan{p}}
}

func lookup(i int, columns []int, keys ...api.Expr) api.Plan {
	return api.Plan{Kind: api.PlanLookup, Source: i, Columns: columns, Keys: keys}
}

func between(i, column int, low, high api.Expr) api.Plan {
	return api.Plan{Kind: api.PlanRange, Source: i, Columns: []int{column}, Keys: []api.Expr{low, high}}
}

func num(n int64) api.Expr {
	return api.Expr{Op: api.OpLiteral, Value: api.Value{Kind: api.Integer, Int: n}}
}

func col(table, name string, index int) api.Expr {
	return api.Expr{Op: api.OpColumn, Table: table, Name: name, Index: index}
}

func and(l ...api.Expr) api.Expr {
	e := l[0]
	for _, x := range l[1:] {
		e = api.Expr{Op: api.OpAnd, Args: []api.Expr{e, x}}
	}
	return e
}

var none = api.Expr{}

func TestConjuncts(t *testing.T) {
	s := build(t)
	b := bind(t, s, "SELECT * FROM b WHERE x = 1 AND (y = 2 AND (x = 3 OR y = 4 AND x = 5)) AND NOT (x = 6 AND y = 7)")
	var got []string
	for _, e := range Conjuncts(b.Statement.Where) {
		text, _ := ast.FormatExpr(e)
		got = append(got, text)
	}
	if !slices.Equal(got, []string{"x = 1", "y = 2", "x = 3 OR y = 4 AND x = 5", "NOT (x = 6 AND y = 7)"}) {
		t.Errorf("Conjuncts = %q", got)
	}
	if Conjuncts(api.Expr{}) != nil {
		t.Error("the conjuncts of an absent condition")
	}
	l := Conjuncts(b.Statement.Where)
	l[0].Args[0].Name = "spoilt"
	if Conjuncts(b.Statement.Where)[0].Args[0].Name != "x" {
		t.Error("Conjuncts shares memory with its argument")
	}
}

func TestSources(t *testing.T) {
	p := join(filter(join(scan(2), lookup(0, []int{0}, num(1))), num(1)), between(1, 0, num(1), none))
	if got := Sources(p); !slices.Equal(got, []int{2, 0, 1}) {
		t.Errorf("Sources = %v", got)
	}
	if got := Sources(api.Plan{Kind: 9, Source: 4, Args: []api.Plan{scan(3), scan(3)}}); !slices.Equal(got, []int{3, 3}) {
		t.Errorf("Sources = %v", got)
	}
}

func TestShape(t *testing.T) {
	s := build(t)
	b := bind(t, s, text)
	ax, ay, az, cx, cy := col("a", "x", 0), col("a", "y", 1), col("a", "z", 2), col("c", "x", 3), col("c", "y", 4)
	change := func(p api.Plan, f func(*api.Plan)) api.Plan {
		p = copies.Plan(p)
		f(&p)
		return p
	}
	good := []api.Plan{
		join(scan(0), scan(1)), join(scan(1), scan(0)), join(scan(0), lookup(1, []int{1}, ax)), join(scan(0), lookup(1, []int{1, 0}, ax, num(1))), join(lookup(0, []int{2}, num(3)), scan(1)), join(scan(0), between(1, 0, none, az)), join(scan(1), between(0, 2, cx, cy)), join(between(0, 2, num(1), none), scan(1)), filter(join(scan(0), scan(1)), and(ax, cy)), join(filter(scan(0), ay), scan(1)), join(scan(0), filter(scan(1), and(ax, cx))), join(scan(0), filter(lookup(1, []int{0}, ax), ax)), filter(filter(join(scan(0), scan(1)), num(1)), num(2)),
	}
	for i, p := range good {
		if !Shape(s, b, p) {
			t.Errorf("plan %d is not well-formed", i)
		}
	}
	bad := []api.Plan{
		{}, {Kind: 6}, {Kind: -1}, scan(0), join(scan(0), scan(0)), join(join(scan(0), scan(1)), scan(0)), join(scan(0), scan(2)), join(scan(0), scan(-1)), {Kind: api.PlanJoin, Args: []api.Plan{scan(0)}}, {Kind: api.PlanJoin}, {Kind: api.PlanJoin, Args: []api.Plan{scan(0), scan(1), scan(1)}}, {Kind: api.PlanFilter, Filter: num(1)}, {Kind: api.PlanFilter, Filter: num(1), Args: []api.Plan{scan(0), scan(1)}},
		filter(join(scan(0), scan(1)), none), filter(join(scan(0), scan(1)), api.Expr{Name: "x"}), join(filter(scan(0), cx), scan(1)), join(scan(0), filter(scan(1), col("", "", 5))), filter(join(scan(0), scan(1)), col("", "", -1)),
		join(scan(0), lookup(1, nil)), join(scan(0), lookup(1, []int{1})), join(scan(0), lookup(1, []int{1}, ax, ax)), join(scan(0), lookup(1, []int{2}, ax)), join(scan(0), lookup(1, []int{-1}, ax)), join(scan(0), lookup(1, []int{1, 1}, ax, ax)), join(scan(0), lookup(1, []int{1}, none)), join(scan(0), lookup(1, []int{1}, cx)), join(lookup(1, []int{1}, ax), scan(0)), join(scan(0), lookup(1, []int{1, 0}, ax, cy)), join(scan(0), lookup(1, []int{1}, api.Expr{Op: api.OpNeg, Args: []api.Expr{cx}})),
		join(scan(0), between(1, 0, none, none)), join(scan(0), between(1, 2, num(1), none)), join(scan(0), between(1, 0, cx, none)), join(scan(0), between(1, 0, num(1), cx)), join(scan(0), between(1, 0, num(1), api.Expr{Index: 1})), join(scan(0), change(between(1, 0, num(1), none), func(p *api.Plan) { p.Keys = p.Keys[:1] })), join(scan(0), change(between(1, 0, num(1), none), func(p *api.Plan) { p.Columns = []int{0, 1} })), join(scan(0), change(between(1, 0, num(1), none), func(p *api.Plan) { p.Columns = nil })),
		join(scan(0), change(scan(1), func(p *api.Plan) { p.Columns = []int{0} })), join(scan(0), change(scan(1), func(p *api.Plan) { p.Keys = []api.Expr{num(1)} })), join(scan(0), change(scan(1), func(p *api.Plan) { p.Filter = num(1) })), join(scan(0), change(scan(1), func(p *api.Plan) { p.Args = []api.Plan{scan(1)} })), join(scan(0), change(lookup(1, []int{1}, ax), func(p *api.Plan) { p.Filter = num(1) })), join(scan(0), change(lookup(1, []int{1}, ax), func(p *api.Plan) { p.Args = []api.Plan{scan(1)} })), join(scan(0), change(between(1, 1, ax, none), func(p *api.Plan) { p.Filter = num(1) })),
		change(good[0], func(p *api.Plan) { p.Source = 1 }), change(good[0], func(p *api.Plan) { p.Columns = []int{0} }), change(good[0], func(p *api.Plan) { p.Keys = []api.Expr{num(1)} }), change(good[0], func(p *api.Plan) { p.Filter = num(1) }), change(good[8], func(p *api.Plan) { p.Source = 1 }), change(good[8], func(p *api.Plan) { p.Columns = []int{0} }), change(good[8], func(p *api.Plan) { p.Keys = []api.Expr{num(1)} }),
		filter(api.Plan{Kind: 9}, num(1)), join(api.Plan{}, scan(1)), join(scan(0), api.Plan{Kind: 7, Source: 1}),
	}
	for i, p := range bad {
		if Shape(s, b, p) || Valid(s, b, p) {
			t.Errorf("plan %d is well-formed", i)
		}
	}
	single := bind(t, s, "DELETE FROM b WHERE x = y")
	if !Shape(s, single, scan(0)) || !Shape(s, single, filter(scan(0), col("", "x", 0))) || Shape(s, single, lookup(0, []int{0}, col("", "y", 1))) || Shape(s, single, scan(1)) {
		t.Error("plans of a statement with one source")
	}
}

func TestValid(t *testing.T) {
	s := build(t)
	b := bind(t, s, text)
	c := Conjuncts(b.Statement.Where)
	all := and(c...)
	ax, cx, cy, az := c[0].Args[0], c[2].Args[0], c[0].Args[1], c[1].Args[0]
	without := func(l ...int) api.Expr {
		var rest []api.Expr
		for i, e := range c {
			if !slices.Contains(l, i) {
				rest = append(rest, e)
			}
		}
		return and(rest...)
	}
	five, seven, three := num(5), num(7), num(3)
	both := join(scan(0), scan(1))
	for i, p := range []api.Plan{
		filter(both, all), Naive(b), filter(join(scan(1), scan(0)), all), filter(filter(both, without(0, 1)), and(c[0], c[1])), filter(filter(both, all), c[0]), filter(filter(both, and(c[5], c[4], c[3])), and(c[0], c[1], c[2])), filter(join(filter(scan(0), c[4]), scan(1)), without(4)),
		filter(join(scan(0), lookup(1, []int{1}, ax)), without(0)), filter(join(scan(1), lookup(0, []int{0}, cy)), without(0)), filter(join(scan(1), lookup(0, []int{0, 2}, cy, three)), without(0, 3)), filter(join(lookup(0, []int{2}, three), scan(1)), without(3)), filter(join(lookup(0, []int{2}, three), scan(1)), all),
		filter(join(between(0, 2, five, none), scan(1)), all), filter(join(scan(0), between(1, 0, none, seven)), without(2)), filter(join(scan(0), between(1, 0, none, az)), without(5)), filter(join(scan(1), between(0, 2, cx, none)), without(5)),
	} {
		if !Valid(s, b, p) {
			t.Errorf("plan %d is not valid: %s", i, Format(s, b, p))
		}
	}
	moved := copies.Expr(c[0])
	moved.Args[0].Index = 2
	for i, p := range []api.Plan{
		both, filter(both, without(0)), filter(both, without(3)), filter(both, and(all, num(1))), filter(both, and(all, moved)), filter(both, and(without(0), moved)), filter(both, and(c[0], and(c[1], c[2]))),
		filter(join(scan(0), lookup(1, []int{1}, ax)), without(0, 1)), filter(join(scan(0), lookup(1, []int{0}, ax)), all), filter(join(scan(0), lookup(1, []int{1}, az)), all), filter(join(lookup(0, []int{2}, num(4)), scan(1)), all), filter(join(lookup(0, []int{0}, three), scan(1)), all), filter(join(lookup(0, []int{2}, five), scan(1)), all),
		// A bound that is not exact does not replace its conjunct.
		filter(join(between(0, 2, five, none), scan(1)), without(1)), filter(join(between(0, 2, none, five), scan(1)), all), filter(join(scan(0), between(1, 0, seven, none)), all), filter(join(scan(0), between(1, 0, az, none)), all), filter(join(between(0, 2, three, none), scan(1)), all), filter(join(between(0, 2, five, num(9)), scan(1)), all), filter(join(between(0, 0, five, none), scan(1)), all),
	} {
		if !Shape(s, b, p) || Valid(s, b, p) {
			t.Errorf("plan %d is valid: %s", i, Format(s, b, p))
		}
	}
	free := bind(t, s, "SELECT * FROM a, b")
	if !Valid(s, free, both) || Valid(s, free, filter(both, num(1))) || !Valid(s, free, Naive(free)) {
		t.Error("plans of a statement without a condition")
	}
}

func TestBounds(t *testing.T) {
	s := build(t)
	five := num(5)
	for _, c := range []struct {
		where                             string
		lower, upper, exactLower, exactUp bool
	}{{"x >= 5", true, false, true, false}, {"5 <= x", true, false, true, false}, {"x > 5", true, false, false, false}, {"5 < x", true, false, false, false}, {"x <= 5", false, true, false, true}, {"5 >= x", false, true, false, true}, {"x < 5", false, true, false, false}, {"5 > x", false, true, false, false}, {"x = 5", false, false, false, false}, {"x <> 5", false, false, false, false}, {"x >= 5 OR x > 5", false, false, false, false}} {
		b := bind(t, s, "DELETE FROM b WHERE "+c.where)
		where := b.Statement.Where
		for i, p := range []api.Plan{between(0, 0, five, none), between(0, 0, none, five)} {
			gives, exactly := c.lower, c.exactLower
			if i == 1 {
				gives, exactly = c.upper, c.exactUp
			}
			if Valid(s, b, p) != exactly || Valid(s, b, filter(p, where)) != gives {
				t.Errorf("%s: bound %d", c.where, i)
			}
		}
		if key := c.where == "x = 5"; Valid(s, b, lookup(0, []int{0}, five)) != key || Valid(s, b, filter(lookup(0, []int{0}, five), where)) != key {
			t.Errorf("%s: the key", c.where)
		}
	}
}

func TestNaive(t *testing.T) {
	s := build(t)
	for text, want := range map[string]string{
		"SELECT * FROM a": "SCAN a", "SELECT * FROM a AS x, b, a AS y": "JOIN (JOIN (SCAN x) (SCAN b)) (SCAN y)", "DELETE FROM b": "SCAN b", "UPDATE b SET x = 1 WHERE y = 2 AND x = 3": "FILTER (SCAN b) BY y = 2 AND x = 3", "SELECT * FROM a, b WHERE z = 1": "FILTER (JOIN (SCAN a) (SCAN b)) BY z = 1",
	} {
		b := bind(t, s, text)
		p := Naive(b)
		if got := Format(s, b, p); got != want || !Valid(s, b, p) {
			t.Errorf("%s: %s", text, got)
		}
		if p.Kind == api.PlanFilter {
			kept := copies.Statement(b.Statement)
			p.Filter.Args[0].Name = "spoilt"
			if !reflect.DeepEqual(b.Statement, kept) {
				t.Error("Naive shares memory with its argument")
			}
		}
	}
}

func TestFormat(t *testing.T) {
	s := build(t)
	b := bind(t, s, text)
	c := Conjuncts(b.Statement.Where)
	p := filter(join(filter(between(0, 2, num(5), none), c[1]), join(lookup(1, []int{1, 0}, c[0].Args[0], num(-1)), between(1, 0, num(1), c[1].Args[0]))), and(c[4], c[2]))
	want := "FILTER (JOIN (FILTER (RANGE a (z >= 5)) BY a.z > 5) (JOIN (LOOKUP c (y = a.x, x = )) (RANGE c (x >= 1, x <= a.z)))) BY a.y LIKE 'q%' AND c.x <= 7"
	if got := Format(s, b, p); got != want {
		t.Errorf("Format = %s", got)
	}
	if got := Format(s, b, between(0, 0, none, num(2))); got != "RANGE a (x <= 2)" {
		t.Errorf("Format = %s", got)
	}
}

func TestExample(t *testing.T) {
	s := build(t)
	b := bind(t, s, "SELECT * FROM a, b WHERE a.x = b.y AND a.z > 5")
	c := Conjuncts(b.Statement.Where)
	left := between(0, 2, num(5), none)
	right := lookup(1, []int{1}, c[0].Args[0])
	if !Valid(s, b, join(filter(left, c[1]), right)) || Valid(s, b, join(left, right)) {
		t.Error("the example")
	}
}
