package box

import (
	"math/rand"
	"reflect"
	"slices"
	"testing"

	"disjoint/api"
	"disjoint/binder"
	"disjoint/copies"
	"disjoint/formula"
	"disjoint/parser"
	"disjoint/predicate"
	"disjoint/schema"
	"disjoint/value"
)

// The columns x, y and s, and a further variable z.
var table = api.Table{Name: "t", Columns: []api.Column{
	{Name: "x", Type: api.Integer, Low: -4, High: 4}, {Name: "y", Type: api.Integer, Low: -1, High: 2, NotNull: true}, {Name: "s", Type: api.Text, Max: 2},
	{Name: "z", Type: api.Integer, Low: 0, High: 3},
}}

var all = schema.Variables(table)

const columns = 3

func predicateOf(t *testing.T, s string) api.Predicate {
	t.Helper()
	e, offset, err := parser.Expression(s)
	if err != api.OK {
		t.Fatalf("%q: %d at %d", s, err, offset)
	}
	b, _, err := binder.Check(table, e)
	if err != api.OK {
		t.Fatalf("%q: %d", s, err)
	}
	f, err := formula.WhenTrue(b, all)
	if err != api.OK {
		t.Fatalf("%q: %d", s, err)
	}
	p, err := predicate.Of(5, columns, all, f)
	if err != api.OK {
		t.Fatalf("%q: %d", s, err)
	}
	return p
}

func valid(s Side) bool {
	if !s.Other {
		return s.Null && s == Side{Null: true}
	}
	return s.Low <= s.High && s.From <= s.To
}

func checkValid(t *testing.T, b Box, l []api.Variable) {
	t.Helper()
	if len(b.Sides) != len(l) {
		t.Fatalf("%v has %d sides", b, len(b.Sides))
	}
	for i, s := range b.Sides {
		if !valid(s) || l[i].Type == api.Integer && s.From+s.To != "" || l[i].Type == api.Text && (s.Low != 0 || s.High != 0) {
			t.Fatalf("side %d is not valid: %v", i, s)
		}
	}
}

func rows() []api.Row {
	var l []api.Row
	for x := int64(-5); x <= 4; x++ {
		for y := int64(-1); y <= 2; y++ {
			for _, s := range []string{"", "a", "ab", "b", "~~", "!"} {
				r := api.Row{value.Int(x), value.Int(y), value.Text(s)}
				if x == -5 {
					r[0] = api.Value{}
				}
				if s == "!" {
					r[2] = api.Value{}
				}
				l = append(l, r)
			}
		}
	}
	return l
}

var conditions = []string{"x < 3", "2 * x >= 3", "-3 * x > 5", "x = 2", "x <> 2", "3 * x = 7", "-2 * x = 6", "x IS NULL", "x IS NOT NULL", "y = 0 OR y = 2", "x < y", "s = 'ab'", "s <> 'a'", "s < 'b'", "s <= 'a'", "s > 'a'", "s >= 'b'", "s LIKE 'a%'", "s LIKE 'a_'", "s LIKE '%b'", "s LIKE 'ab'", "s NOT LIKE 'a%'", "s IS NULL", "x = 2 * z", "z = 9", "x > 1 AND x < 2", "s > '~~'", "NULL", "LENGTH(s) = 1"}

func TestOf(t *testing.T) {
	r := rand.New(rand.NewSource(57))
	every := rows()
	for i := range 600 {
		text := conditions[i%len(conditions)]
		if i >= len(conditions) {
			text = "(" + text + []string{") AND (", ") OR ("}[r.Intn(2)] + conditions[r.Intn(len(conditions))] + ")"
		}
		p := predicateOf(t, text)
		kept := copies.Predicate(p)
		b := Of(p)
		if b.Table != 5 || (len(b.Sides) == 0) != predicate.Empty(p) {
			t.Fatalf("Of(%s) = %v", text, b)
		}
		if len(b.Sides) > 0 {
			checkValid(t, b, all[:columns])
		}
		for _, row := range every {
			if predicate.Matches(p, row) && !Contains(b, row) {
				t.Fatalf("%s belongs to %s, but not to %v", value.FormatRow(row), text, b)
			}
		}
		if !reflect.DeepEqual(p, kept) {
			t.Fatal("the predicate is changed")
		}
	}
}

// The box of a condition on single columns is narrow.
func TestNarrow(t *testing.T) {
	full := Side{Null: true, Other: true, Low: -4, High: 4}
	y := Side{Other: true, Low: -1, High: 2}
	s := Side{Null: true, Other: true, To: "~~"}
	for text, want := range map[string][]Side{
		"1 = 1": {full, y, s}, "x >= 1 AND 2 * x <= 7": {{Other: true, Low: 1, High: 3}, y, s}, "x = 2 OR x IS NULL": {{Null: true, Other: true, Low: 2, High: 2}, y, s}, "y > 0": {full, {Other: true, Low: 1, High: 2}, s}, "s LIKE 'a%' AND s > 'ab'": {full, y, {Other: true, From: "ab", To: "a~~~~~~~~~~~~~~~~"}}, "s = 'b' OR s = 'a'": {full, y, {Other: true, From: "a", To: "b"}}, "s IS NULL": {full, y, {Null: true}}, "x = 1 AND x = 2": nil,
	} {
		if got := Of(predicateOf(t, text)); !slices.Equal(got.Sides, want) {
			t.Errorf("Of(%s) = %v", text, got)
		}
	}
}

func TestExactly(t *testing.T) {
	for _, r := range rows() {
		b := Of(predicate.Exactly(3, all[:columns], r))
		if !reflect.DeepEqual(b, Row(3, r)) {
			t.Fatalf("the box of %s is %v", value.FormatRow(r), b)
		}
		for _, other := range rows() {
			same := value.CompareRows(r, other) == 0
			if Contains(b, other) != same || Meet(b, Row(3, other)) != same {
				t.Fatalf("%s and %s", value.FormatRow(r), value.FormatRow(other))
			}
		}
	}
	extremes := []api.Variable{{Type: api.Integer, Low: api.MinInteger, High: api.MaxInteger}, {Type: api.Text, Max: 16}, {Type: api.Text}}
	r := api.Row{value.Int(api.MinInteger), value.Text("sixteen letters!"), value.Text("")}
	if b := Of(predicate.Exactly(0, extremes, r)); !reflect.DeepEqual(b, Row(0, r)) {
		t.Errorf("the box of %s is %v", value.FormatRow(r), b)
	}
	if b := Of(predicate.Exactly(2, extremes, nil)); b.Table != 2 || len(b.Sides) != 0 {
		t.Errorf("the box of no row is %v", b)
	}
}

func TestOverlappingPredicates(t *testing.T) {
	r := rand.New(rand.NewSource(58))
	count := map[bool]int{}
	for range 600 {
		p, q := predicateOf(t, conditions[r.Intn(len(conditions))]), predicateOf(t, conditions[r.Intn(len(conditions))])
		meet := Meet(Of(p), Of(q))
		count[meet]++
		if _, ok := predicate.Overlap(p, q); ok && !meet {
			t.Fatalf("%v and %v overlap", p, q)
		}
	}
	if count[true] < 100 || count[false] < 100 {
		t.Errorf("counts: %v", count)
	}
}

func TestContains(t *testing.T) {
	b := Box{Sides: []Side{{Null: true}, {Other: true, Low: 1, High: 3}, {Null: true, Other: true, From: "b", To: "d"}}}
	null := api.Value{}
	for i, c := range []struct {
		r    api.Row
		want bool
	}{{api.Row{null, value.Int(1), null}, true}, {api.Row{null, value.Int(3), value.Text("b")}, true}, {api.Row{null, value.Int(3), value.Text("d")}, true}, {api.Row{null, value.Int(0), null}, false}, {api.Row{null, value.Int(4), null}, false}, {api.Row{null, null, null}, false}, {api.Row{value.Int(0), value.Int(1), null}, false}, {api.Row{value.Text(""), value.Int(1), null}, false}, {api.Row{null, value.Int(1), value.Text("a~")}, false}, {api.Row{null, value.Int(1), value.Text("d ")}, false}, {api.Row{null, value.Int(1)}, false}, {api.Row{null, value.Int(1), null, null}, false}, {nil, false}, {api.Row{null, value.Text(""), null}, true}, {api.Row{null, value.Int(2), value.Int(0)}, true}} {
		if Contains(b, c.r) != c.want {
			t.Errorf("case %d: Contains is %v", i, !c.want)
		}
	}
	if Contains(Box{}, nil) || Contains(Row(0, nil), nil) {
		t.Error("a row belongs to an empty box")
	}
}

func TestMeet(t *testing.T) {
	ints := func(low, high int64) Side { return Side{Other: true, Low: low, High: high} }
	texts := func(from, to string) Side { return Side{Other: true, From: from, To: to} }
	null := Side{Null: true}
	both := func(s Side) Side {
		s.Null = true
		return s
	}
	box := func(table int, l ...Side) Box { return Box{table, l} }
	for i, c := range []struct {
		a, b Box
		want bool
	}{
		{box(0, ints(1, 3)), box(0, ints(3, 5)), true}, {box(0, ints(1, 3)), box(0, ints(4, 5)), false}, {box(0, ints(1, 9)), box(0, ints(4, 5)), true}, {box(0, texts("a", "c")), box(0, texts("c", "d")), true}, {box(0, texts("a", "b")), box(0, texts("b ", "d")), false}, {box(0, null), box(0, null), true}, {box(0, null), box(0, ints(0, 0)), false}, {box(0, null), box(0, both(ints(0, 0))), true}, {box(0, both(ints(1, 1))), box(0, both(ints(2, 2))), true}, {box(0, both(ints(1, 1))), box(0, ints(2, 2)), false},
		{box(0, ints(1, 3)), box(1, ints(1, 3)), false}, {box(0), box(0), false}, {box(0), box(0, ints(1, 3)), false}, {box(0, ints(1, 3)), box(0, ints(1, 3), null), false}, {box(0, ints(1, 3), null), box(0, ints(1, 3), null), true}, {box(0, ints(1, 3), null), box(0, ints(1, 3), ints(0, 0)), false}, {box(0, ints(0, 0)), box(0, texts("a", "b")), false}, {box(0, ints(1, 1)), box(0, texts("", "b")), false}, {box(0, ints(-1, 1)), box(0, texts("", "b")), true},
	} {
		if Meet(c.a, c.b) != c.want || Meet(c.b, c.a) != c.want {
			t.Errorf("case %d: Meet is %v", i, !c.want)
		}
	}
}

func TestHull(t *testing.T) {
	null := api.Value{}
	a, b := Row(4, api.Row{value.Int(3), null}), Row(4, api.Row{value.Int(5), value.Text("b")})
	h := Hull(a, b)
	if want := (Box{4, []Side{{Other: true, Low: 3, High: 5}, {Null: true, Other: true, From: "b", To: "b"}}}); !reflect.DeepEqual(h, want) || !reflect.DeepEqual(Hull(b, a), want) {
		t.Errorf("Hull = %v", h)
	}
	if !Meet(h, Row(4, api.Row{value.Int(4), value.Text("b")})) || Meet(h, Row(4, api.Row{value.Int(4), value.Text("a")})) {
		t.Error("the hull meets the wrong boxes")
	}
	empty := Box{Table: 4}
	if !reflect.DeepEqual(Hull(empty, a), a) || !reflect.DeepEqual(Hull(a, empty), a) || len(Hull(empty, empty).Sides) != 0 || Hull(empty, empty).Table != 4 {
		t.Error("the hull with an empty box")
	}
	if h := Hull(Row(0, api.Row{null}), Row(0, api.Row{null})); !reflect.DeepEqual(h, Row(0, api.Row{null})) {
		t.Errorf("the hull of two boxes with NULL is %v", h)
	}
	for _, copied := range []Box{Hull(empty, a), Hull(a, empty), Hull(a, a)} {
		copied.Sides[0].Low = 99
		if a.Sides[0].Low != 3 {
			t.Fatal("the hull shares memory with its argument")
		}
	}
	every := rows()
	r := rand.New(rand.NewSource(59))
	for range 300 {
		x, y, z := every[r.Intn(len(every))], every[r.Intn(len(every))], every[r.Intn(len(every))]
		h := Hull(Hull(Row(0, x), Row(0, y)), Row(0, z))
		checkValid(t, h, all[:columns])
		if !Contains(h, x) || !Contains(h, y) || !Contains(h, z) {
			t.Fatal("a row does not belong to the hull")
		}
	}
}
