package dnf

import (
	"math"
	"testing"

	"disjoint/api"
	"disjoint/copies"
)

func TestValid(t *testing.T) {
	good := api.Clause{
		Null: []int{0, 3}, NotNull: []int{1, 2, 4},
		Auxiliary: []api.Auxiliary{{Text: 2}, {Of: api.Linear{Const: 1, Coefs: coefs(1, 5, 5, -1)}, By: 1000}, {By: 1}},
		Ints:      []api.Constraint{{Linear: api.Linear{Const: 1<<40 + 1, Coefs: coefs(1, 1<<20, 6, -1<<20)}}, {Linear: api.Linear{Const: -1<<40 - 1}, Equal: true}},
		Tests:     []api.Test{{Var: 4, Kind: 3, Negated: true, Text: "sixteen letters!"}, {Var: 2}},
		Same:      [][2]int{{2, 4}}, Different: [][2]int{{2, 4}},
	}
	if !Valid(good, variables) || !Valid(api.Clause{}, nil) || !Valid(api.Clause{Null: []int{1}, NotNull: []int{1}}, variables) {
		t.Error("a clause is not valid")
	}
	for what, change := range map[string]func(c *api.Clause){
		"null order": func(c *api.Clause) { c.Null = []int{3, 0} }, "null twice": func(c *api.Clause) { c.Null = []int{3, 3} }, "null": func(c *api.Clause) { c.Null = []int{5} }, "negative null": func(c *api.Clause) { c.Null = []int{-1} }, "not null": func(c *api.Clause) { c.NotNull = []int{1, 2, 4, 5} }, "not null order": func(c *api.Clause) { c.NotNull = []int{1, 4, 2} }, "negative not null": func(c *api.Clause) { c.NotNull = []int{-1, 1, 2, 4} },
		"length of integer": func(c *api.Clause) { c.Auxiliary[0].Text = 1 }, "length of unusable": func(c *api.Clause) { c.Auxiliary[0].Text = 3 }, "length of none": func(c *api.Clause) { c.Auxiliary[0].Text = 5 }, "length with form": func(c *api.Clause) { c.Auxiliary[0].Of.Const = 1 }, "length with coefs": func(c *api.Clause) { c.Auxiliary[0].Of.Coefs = coefs(1, 1) },
		"negative by": func(c *api.Clause) { c.Auxiliary[1].By = -1 }, "large by": func(c *api.Clause) { c.Auxiliary[1].By = 1001 }, "quotient with text": func(c *api.Clause) { c.Auxiliary[1].Text = 2 }, "of itself": func(c *api.Clause) { c.Auxiliary[1].Of.Coefs = coefs(6, 1) }, "of text": func(c *api.Clause) { c.Auxiliary[1].Of.Coefs = coefs(2, 1) }, "of unusable": func(c *api.Clause) { c.Auxiliary[1].Of.Coefs = coefs(0, 1) }, "of order": func(c *api.Clause) { c.Auxiliary[1].Of.Coefs = coefs(5, 1, 1, 1) }, "of const": func(c *api.Clause) { c.Auxiliary[1].Of.Const = 1<<40 + 2 },
		"const": func(c *api.Clause) { c.Ints[0].Linear.Const++ }, "low const": func(c *api.Clause) { c.Ints[1].Linear.Const-- }, "least const": func(c *api.Clause) { c.Ints[1].Linear.Const = math.MinInt64 }, "coef": func(c *api.Clause) { c.Ints[0].Linear.Coefs[0].N++ }, "low coef": func(c *api.Clause) { c.Ints[0].Linear.Coefs[1].N-- }, "least coef": func(c *api.Clause) { c.Ints[0].Linear.Coefs[1].N = math.MinInt64 }, "zero coef": func(c *api.Clause) { c.Ints[0].Linear.Coefs[0].N = 0 }, "coef order": func(c *api.Clause) { c.Ints[0].Linear.Coefs = coefs(6, 1, 1, 1) }, "coef twice": func(c *api.Clause) { c.Ints[0].Linear.Coefs = coefs(1, 1, 1, 1) }, "coef of text": func(c *api.Clause) { c.Ints[0].Linear.Coefs[0].Var = 2 }, "coef of unusable": func(c *api.Clause) { c.Ints[0].Linear.Coefs[0].Var = 0 }, "coef of none": func(c *api.Clause) { c.Ints[0].Linear.Coefs[1].Var = 8 }, "negative coef var": func(c *api.Clause) { c.Ints[0].Linear.Coefs[0].Var = -1 },
		"test kind": func(c *api.Clause) { c.Tests[0].Kind = 4 }, "negative test kind": func(c *api.Clause) { c.Tests[0].Kind = -1 }, "test text": func(c *api.Clause) { c.Tests[0].Text = "seventeen letters" }, "test character": func(c *api.Clause) { c.Tests[0].Text = "\n" }, "test var": func(c *api.Clause) { c.Tests[0].Var = 1 }, "test unusable": func(c *api.Clause) { c.Tests[0].Var = 3 }, "test auxiliary": func(c *api.Clause) { c.Tests[0].Var = 5 }, "negative test var": func(c *api.Clause) { c.Tests[0].Var = -1 },
		"same order": func(c *api.Clause) { c.Same = [][2]int{{4, 2}} }, "same var": func(c *api.Clause) { c.Same = [][2]int{{2, 2}} }, "same integer": func(c *api.Clause) { c.Same = [][2]int{{1, 2}} }, "same unusable": func(c *api.Clause) { c.Same = [][2]int{{2, 3}} }, "different order": func(c *api.Clause) { c.Different = [][2]int{{4, 2}} }, "different integer": func(c *api.Clause) { c.Different = [][2]int{{1, 4}} }, "different none": func(c *api.Clause) { c.Different = [][2]int{{2, 9}} }, "different negative": func(c *api.Clause) { c.Different = [][2]int{{-2, 2}} },
	} {
		c := copies.Clause(good)
		change(&c)
		if Valid(c, variables) {
			t.Errorf("%s: the clause is valid", what)
		}
	}
}

// The bound of a linear form is at most 2^60 + 1.
func TestBound(t *testing.T) {
	many := make([]api.Variable, 600)
	var notNull []int
	for i := range many {
		many[i].Type = api.Integer
		notNull = append(notNull, i)
	}
	form := func(c int64, columns int, more ...api.Coef) api.Linear {
		f := api.Linear{Const: c}
		for i := range columns {
			f.Coefs = append(f.Coefs, api.Coef{Var: i, N: 1 << 20})
		}
		f.Coefs = append(f.Coefs, more...)
		return f
	}
	for i, c := range []struct {
		f    api.Linear
		aux  []api.Auxiliary
		want bool
	}{
		{form(0, 512), nil, true}, {form(1, 512), nil, true}, {form(-1, 512), nil, true}, {form(2, 512), nil, false}, {form(0, 513), nil, false}, {form(0, 511, coefs(599, -1<<20)...), nil, true},
		{form(0, 511, coefs(600, 1<<20)...), []api.Auxiliary{{Of: form(0, 0, coefs(0, 1)...), By: 1}}, false}, {form(0, 511, coefs(600, 1<<20)...), []api.Auxiliary{{Of: form(0, 0, coefs(0, 1)...), By: 2}}, true}, {form(0, 511, coefs(600, 1<<20-1)...), []api.Auxiliary{{Of: form(0, 0, coefs(0, 1)...), By: 1}}, true},
		{form(0, 0, coefs(600, 4)...), []api.Auxiliary{{Of: form(0, 512), By: 1}}, false}, {form(0, 0, coefs(600, 4)...), []api.Auxiliary{{Of: form(0, 512), By: 5}}, true}, {form(0, 0, coefs(600, 1)...), []api.Auxiliary{{Of: form(0, 512), By: 1}}, true}, {form(1, 0, coefs(600, 1)...), []api.Auxiliary{{Of: form(0, 512), By: 1}}, false},
	} {
		x := api.Clause{NotNull: notNull, Auxiliary: c.aux, Ints: []api.Constraint{{Linear: c.f}}}
		if Valid(x, many) != c.want {
			t.Errorf("case %d: Valid is %v", i, !c.want)
		}
	}
}
