package refutation

import (
	"math/rand"
	"reflect"
	"slices"
	"testing"

	"disjoint/api"
	"disjoint/bigint"
	"disjoint/copies"
	"disjoint/cutproof"
	"disjoint/dnf"
	"disjoint/omega"
	"disjoint/textsolver"
	"disjoint/value"
)

var variables = []api.Variable{
	{Type: api.Integer, Low: -5, High: 9, Nullable: true}, {Type: api.Integer, Low: 0, High: 3},
	{Type: api.Text, Max: 4, Nullable: true}, {Type: api.Text, Max: 2}, {Type: api.Text, Max: 16, Nullable: true},
}

func coefs(l ...int64) []api.Coef {
	var c []api.Coef
	for i := 0; i < len(l); i += 2 {
		c = append(c, api.Coef{Var: int(l[i]), N: l[i+1]})
	}
	return c
}

func form(c int64, l ...int64) api.Linear { return api.Linear{Const: c, Coefs: coefs(l...)} }

func atMost(c int64, l ...int64) api.Constraint { return api.Constraint{Linear: form(c, l...)} }

func equal(c int64, l ...int64) api.Constraint {
	return api.Constraint{Linear: form(c, l...), Equal: true}
}

func TestInts(t *testing.T) {
	c := api.Clause{
		NotNull:   []int{0, 1, 2, 4},
		Auxiliary: []api.Auxiliary{{Text: 2}, {Of: form(3, 0, 2, 5, -1), By: 4}, {Text: 4}, {Of: form(-7), By: 1}},
		Ints:      []api.Constraint{atMost(1, 0, 1), equal(-2, 5, 3, 6, 1)},
	}
	ranges := [][2]int{{0, 0}, {0, 0}, {1, 9}, {0, 2}, {3, 7}}
	n, got := Ints(variables, c, ranges)
	want := []api.Constraint{
		atMost(-5, 0, -1), atMost(-9, 0, 1), atMost(0, 1, -1), atMost(-3, 1, 1),
		atMost(1, 5, -1), atMost(-4, 5, 1), atMost(-3, 0, -2, 5, 1, 6, 4), atMost(0, 0, 2, 5, -1, 6, -4), atMost(3, 7, -1), atMost(-7, 7, 1), atMost(7, 8, 1), atMost(-7, 8, -1),
		atMost(1, 0, 1), equal(-2, 5, 3, 6, 1),
	}
	if n != 9 || !reflect.DeepEqual(got, want) {
		t.Errorf("Ints = %d, %v", n, got)
	}
	got[12].Linear.Coefs[0].N = 77
	got[6].Linear.Coefs[0].N = 77
	got[7].Linear.Coefs[0].N = 77
	if c.Ints[0].Linear.Coefs[0].N != 1 || c.Auxiliary[1].Of.Coefs[0].N != 2 {
		t.Error("the result shares memory with the clause")
	}
	if n, got := Ints(variables, api.Clause{Null: []int{0}}, ranges); n != 5 || len(got) != 0 {
		t.Errorf("Ints of a clause without integers: %d, %v", n, got)
	}
}

func TestTexts(t *testing.T) {
	test := func(v int, s string) api.Test {
		return api.Test{Var: v, Kind: api.TestLike, Negated: true, Text: s}
	}
	c := api.Clause{Null: []int{3}, NotNull: []int{0, 2, 4}, Tests: []api.Test{test(4, "a"), test(2, "b")}, Same: [][2]int{{2, 4}}, Different: [][2]int{{2, 4}, {2, 4}}}
	p, numbers := Texts(variables, c, [][2]int{{0, 0}, {0, 0}, {3, 9}, {0, 2}, {1, 7}})
	want := textsolver.Problem{Min: []int{3, 1}, Max: []int{4, 7}, Tests: []api.Test{test(1, "a"), test(0, "b")}, Same: [][2]int{{0, 1}}, Different: [][2]int{{0, 1}, {0, 1}}}
	if !reflect.DeepEqual(p, want) || !slices.Equal(numbers, []int{2, 4}) {
		t.Errorf("Texts = %v, %v", p, numbers)
	}
	if c.Tests[0].Var != 4 || c.Same[0] != [2]int{2, 4} {
		t.Error("the clause is changed")
	}
	if p, numbers := Texts(variables, api.Clause{NotNull: []int{1}}, first(variables)); len(p.Min) != 0 || len(numbers) != 0 || !textsolver.Valid(p) {
		t.Errorf("Texts of a clause without texts: %v, %v", p, numbers)
	}
}

// integers returns the refutation of the integer constraints of a clause for ranges.
func integers(t *testing.T, l []api.Variable, c api.Clause, ranges [][2]int) api.Refutation {
	t.Helper()
	n, constraints := Ints(l, c, ranges)
	_, p, ok := omega.Solve(n, constraints)
	if ok {
		t.Fatalf("the integer constraints of %s have a solution", dnf.Format(c, len(l)))
	}
	return api.Refutation{Kind: api.RefuteInts, Proof: p}
}

func split(v, at int, children ...api.Refutation) api.Refutation {
	return api.Refutation{Kind: api.RefuteLength, Var: v, At: at, Children: children}
}

var text = api.Refutation{Kind: api.RefuteText}

func null(v int) api.Refutation { return api.Refutation{Kind: api.RefuteNull, Var: v} }

func TestNull(t *testing.T) {
	for i, c := range []struct {
		c    api.Clause
		v    int
		want bool
	}{{api.Clause{Null: []int{1}}, 1, true}, {api.Clause{Null: []int{0}}, 0, false}, {api.Clause{Null: []int{0}, NotNull: []int{0}}, 0, true}, {api.Clause{NotNull: []int{0}}, 0, false}, {api.Clause{NotNull: []int{1}}, 1, false}, {api.Clause{Null: []int{1, 2}}, 2, false}, {api.Clause{Null: []int{3}}, 1, false}, {api.Clause{Null: []int{3}}, 9, false}, {api.Clause{Null: []int{3}}, -1, false}} {
		if Check(variables, c.c, null(c.v)) != c.want {
			t.Errorf("case %d: Check is %v", i, !c.want)
		}
	}
}

func TestIntegers(t *testing.T) {
	c := api.Clause{NotNull: []int{0}, Ints: []api.Constraint{equal(-5, 0, 2)}}
	r := integers(t, variables, c, first(variables))
	if !Check(variables, c, r) {
		t.Error("the refutation is not correct")
	}
	hand := api.Refutation{Kind: api.RefuteInts, Proof: api.Proof{Steps: []api.Step{
		{Uses: []api.Use{{Index: 2, N: bigint.Of(1)}}, Divisor: bigint.Of(2)}, {Uses: []api.Use{{Index: 3, N: bigint.Of(1)}}, Divisor: bigint.Of(2)},
		{Uses: []api.Use{{Index: 4, N: bigint.Of(1)}, {Index: 5, N: bigint.Of(1)}}, Divisor: bigint.Of(1)},
	}}}
	if !Check(variables, c, hand) || Format(hand) != "integers 3" || Size(hand) != 4 {
		t.Errorf("the refutation by hand: %s, size %d", Format(hand), Size(hand))
	}
	for i, bad := range []api.Refutation{{}, text, {Kind: api.RefuteInts}, {Kind: 4, Proof: hand.Proof}, {Kind: -1, Proof: hand.Proof}, split(0, 0, hand, hand), null(0)} {
		if Check(variables, c, bad) {
			t.Errorf("refutation %d is accepted", i)
		}
	}
	other := api.Clause{NotNull: []int{0}, Ints: []api.Constraint{equal(-4, 0, 2)}}
	if Check(variables, other, hand) || Check(variables, other, r) {
		t.Error("a refutation of another clause is accepted")
	}
	// The domains belong to the integer constraints.
	c = api.Clause{NotNull: []int{1}, Ints: []api.Constraint{atMost(4, 1, -1)}}
	if !Check(variables, c, integers(t, variables, c, first(variables))) {
		t.Error("a refutation by the domain")
	}
}

func TestLengths(t *testing.T) {
	// LENGTH(x2) = 2 and x2 LIKE 'a': for lengths up to 1 the integers, and for greater ones the texts are contradictory.
	c := api.Clause{NotNull: []int{2}, Auxiliary: []api.Auxiliary{{Text: 2}}, Ints: []api.Constraint{equal(-2, 5, 1)}, Tests: []api.Test{{Var: 2, Kind: api.TestLike, Text: "a"}}}
	short := first(variables)
	short[2] = [2]int{0, 1}
	low := integers(t, variables, c, short)
	good := split(2, 1, low, text)
	if !Check(variables, c, good) || Format(good) != "length x2 <= 1 (integers "+Format(low)[9:]+") (text)" || Size(good) != Size(low)+2 {
		t.Errorf("a split: %s, size %d", Format(good), Size(good))
	}
	if !Check(variables, c, split(2, 3, good2(low), text)) {
		t.Error("splits within splits")
	}
	for i, bad := range []api.Refutation{low, text, split(2, 0, low, text), split(2, 2, low, text), split(2, 1, text, low), split(3, 1, low, text), split(0, 1, low, text), split(9, 1, low, text), split(-1, 1, low, text), split(2, 1, low), split(2, 1), split(2, 1, low, text, text), split(2, -1, low, text), split(2, 4, low, text), split(2, 1, good, text), split(2, 1, low, good), split(2, 1, split(2, 1, low, text), text), split(2, 1, low, split(2, 1, text, text))} {
		if Check(variables, c, bad) {
			t.Errorf("refutation %d is accepted: %s", i, Format(bad))
		}
	}
	// A variable that is not in NotNull has no length.
	d := api.Clause{NotNull: []int{3}, Tests: []api.Test{{Var: 3}, {Var: 3, Text: "x"}}}
	if Check(variables, d, split(2, 1, text, text)) || !Check(variables, d, text) || !Check(variables, d, split(3, 1, text, text)) {
		t.Error("a split of a variable that can be NULL")
	}
	// The range of a text variable ends at its Max.
	if Check(variables, d, split(3, 2, text, text)) || !Check(variables, d, split(3, 0, text, text)) {
		t.Error("a split at the end of the range")
	}
}

// good2 splits the lengths up to 3 again, at 1.
func good2(low api.Refutation) api.Refutation { return split(2, 1, low, text) }

func TestTextRefutations(t *testing.T) {
	c := api.Clause{NotNull: []int{2, 3}, Same: [][2]int{{2, 3}}, Tests: []api.Test{{Var: 2, Kind: api.TestLike, Text: "___%"}}}
	if !Check(variables, c, text) {
		t.Error("the texts are contradictory because of a domain")
	}
	c.Tests[0].Text = "__%"
	if Check(variables, c, text) || Check(variables, c, split(2, 1, text, text)) {
		t.Error("a satisfiable clause is refuted")
	}
	c.Different = [][2]int{{2, 3}}
	if !Check(variables, c, text) {
		t.Error("equal and different texts")
	}
}

func TestFormat(t *testing.T) {
	for want, r := range map[string]api.Refutation{
		"null x3": {Var: 3, At: 7, Proof: api.Proof{Steps: []api.Step{{}}}, Children: []api.Refutation{{}}}, "null x-2": {Var: -2}, "text": {Kind: api.RefuteText, Var: 2}, "integers 0": {Kind: api.RefuteInts}, "invalid": {Kind: 4}, "length x3 <= 2 (text) (integers 1)": split(3, 2, text, api.Refutation{Kind: api.RefuteInts, Proof: api.Proof{Steps: []api.Step{{}}}}), "length x-1 <= -4": split(-1, -4), "length x0 <= 0 (length x1 <= 1 (invalid)) (null x0) (text)": split(0, 0, split(1, 1, api.Refutation{Kind: -1}), null(0), text),
	} {
		if got := Format(r); got != want {
			t.Errorf("Format = %q, want %q", got, want)
		}
	}
	proof := api.Proof{Steps: []api.Step{{}, {}}, Children: []api.Proof{{}, {Steps: []api.Step{{}}}}}
	for i, c := range []struct {
		r    api.Refutation
		want int
	}{{null(0), 1}, {api.Refutation{Kind: api.RefuteText, Proof: proof, Children: []api.Refutation{text}}, 1}, {api.Refutation{Kind: api.RefuteInts, Proof: proof, Children: []api.Refutation{text}}, 5}, {split(0, 0, text, split(1, 1, text, api.Refutation{Kind: api.RefuteInts, Proof: proof})), 9}, {api.Refutation{Kind: 9, Proof: proof, Children: []api.Refutation{text}}, 1}} {
		if Size(c.r) != c.want {
			t.Errorf("case %d: Size is %d", i, Size(c.r))
		}
	}
}

// randomClause is a clause that is valid over the variables.
func randomClause(r *rand.Rand) api.Clause {
	var c api.Clause
	var ints, texts []int
	for v, x := range variables {
		switch {
		case x.Nullable && r.Intn(4) == 0:
			c.Null = append(c.Null, v)
		case r.Intn(5) > 0:
			c.NotNull = append(c.NotNull, v)
			if x.Type == api.Integer {
				ints = append(ints, v)
			} else {
				texts = append(texts, v)
			}
		}
	}
	random := func() api.Linear {
		f := api.Linear{Const: r.Int63n(9) - 4}
		for _, v := range ints {
			if k := r.Int63n(5) - 2; k != 0 {
				f.Coefs = append(f.Coefs, api.Coef{Var: v, N: k})
			}
		}
		return f
	}
	for range r.Intn(3) {
		a := api.Auxiliary{Of: random(), By: 1 + r.Int63n(3)}
		if len(texts) > 0 && r.Intn(2) == 0 {
			a = api.Auxiliary{Text: texts[r.Intn(len(texts))]}
		}
		ints = append(ints, len(variables)+len(c.Auxiliary))
		c.Auxiliary = append(c.Auxiliary, a)
	}
	for range r.Intn(3) {
		c.Ints = append(c.Ints, api.Constraint{Linear: random(), Equal: r.Intn(4) == 0})
	}
	for range r.Intn(3) {
		if len(texts) > 0 {
			c.Tests = append(c.Tests, api.Test{Var: texts[r.Intn(len(texts))], Kind: r.Intn(4), Negated: r.Intn(2) == 0, Text: []string{"a", "b%", "_a"}[r.Intn(3)]})
		}
	}
	if len(texts) > 1 && r.Intn(2) == 0 {
		c.Different = [][2]int{{texts[0], texts[1]}}
	}
	return c
}

// If a row satisfies a clause, its values satisfy the integer constraints, and its texts solve the text problem.
func TestRowsSatisfyBoth(t *testing.T) {
	r := rand.New(rand.NewSource(46))
	found := 0
	for range 3000 {
		c := randomClause(r)
		kept := copies.Clause(c)
		if !dnf.Valid(c, variables) {
			t.Fatalf("not valid: %s", dnf.Format(c, len(variables)))
		}
		for range 10 {
			row := make(api.Row, len(variables))
			ranges := first(variables)
			for v, x := range variables {
				switch {
				case x.Nullable && r.Intn(4) == 0:
				case x.Type == api.Integer:
					row[v] = value.Int(x.Low + r.Int63n(x.High-x.Low+1))
				default:
					s := []string{"", "a", "b", "ba", "aa", "ab", "abc"}[r.Intn(7)]
					row[v] = value.Text(s[:min(len(s), x.Max)])
					ranges[v] = [2]int{r.Intn(len(row[v].Text) + 1), len(row[v].Text) + r.Intn(3)}
				}
			}
			if !dnf.Holds(c, row) {
				continue
			}
			found++
			checkRow(t, c, row, ranges)
			if Check(variables, c, text) || Check(variables, c, split(4, 3, text, text)) || Check(variables, c, api.Refutation{Kind: api.RefuteInts}) || Check(variables, c, null(r.Intn(5))) {
				t.Fatalf("refuted, but %s satisfies %s", value.FormatRow(row), dnf.Format(c, len(variables)))
			}
		}
		if !reflect.DeepEqual(c, kept) {
			t.Fatal("the clause is changed")
		}
	}
	if found < 500 {
		t.Errorf("only %d rows", found)
	}
}

func checkRow(t *testing.T, c api.Clause, row api.Row, ranges [][2]int) {
	t.Helper()
	n, constraints := Ints(variables, c, ranges)
	var x []api.Big
	for _, v := range row {
		x = append(x, bigint.Of(v.Int))
	}
	values, _ := dnf.Auxiliary(c, row)
	for _, v := range values {
		x = append(x, bigint.Of(v))
	}
	if len(x) != n || !omega.Satisfies(constraints, x) || !omega.Valid(n, constraints) {
		t.Fatalf("%s does not satisfy the integer constraints of %s", value.FormatRow(row), dnf.Format(c, len(variables)))
	}
	p, numbers := Texts(variables, c, ranges)
	var texts []string
	for _, v := range numbers {
		texts = append(texts, row[v].Text)
	}
	if !textsolver.Valid(p) || !textsolver.Satisfies(p, texts) {
		t.Fatalf("%s does not solve the text problem of %s", value.FormatRow(row), dnf.Format(c, len(variables)))
	}
	for _, q := range cutproof.System(constraints, n) {
		if !cutproof.Holds(q, x) {
			t.Fatal("an inequality does not hold")
		}
	}
}
