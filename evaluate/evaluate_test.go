package evaluate

import (
	"math/big"
	"math/rand"
	"strings"
	"testing"

	"disjoint/api"
	"disjoint/value"
)

func op(o int, args ...api.Expr) api.Expr { return api.Expr{Op: o, Args: args} }

func num(n int64) api.Expr { return api.Expr{Op: api.OpLiteral, Value: value.Int(n)} }

func str(s string) api.Expr { return api.Expr{Op: api.OpLiteral, Value: value.Text(s)} }

func x(i int) api.Expr { return api.Expr{Op: api.OpColumn, Table: "t", Name: "c", Index: i} }

var (
	null = api.Expr{Op: api.OpLiteral}
	row  = api.Row{value.Int(-7), {}, value.Text("abc"), {}, value.Int(5)} // x1 is an integer column, x3 a text column
)

func TestValues(t *testing.T) {
	for i, c := range []struct {
		e    api.Expr
		want api.Value
	}{
		{num(3), value.Int(3)}, {str("a"), value.Text("a")}, {null, api.Value{}}, {x(0), value.Int(-7)}, {x(1), api.Value{}}, {x(2), value.Text("abc")},
		{op(api.OpNeg, x(0)), value.Int(7)}, {op(api.OpAdd, x(0), num(2)), value.Int(-5)}, {op(api.OpSub, num(2), x(0)), value.Int(9)}, {op(api.OpMul, x(0), num(3)), value.Int(-21)},
		{op(api.OpDiv, x(0), num(2)), value.Int(-4)}, {op(api.OpMod, x(0), num(2)), value.Int(1)}, {op(api.OpDiv, x(4), num(2)), value.Int(2)}, {op(api.OpMod, x(4), num(2)), value.Int(1)}, {op(api.OpDiv, num(-8), num(4)), value.Int(-2)}, {op(api.OpMod, num(-8), num(4)), value.Int(0)}, {op(api.OpMod, x(0), num(1000)), value.Int(993)}, {op(api.OpDiv, x(0), num(1)), value.Int(-7)}, {op(api.OpMod, x(0), num(1)), value.Int(0)},
		{op(api.OpLength, x(2)), value.Int(3)}, {op(api.OpLength, str("")), value.Int(0)}, {op(api.OpLength, x(3)), api.Value{}}, {op(api.OpLength, null), api.Value{}},
		{op(api.OpNeg, x(1)), api.Value{}}, {op(api.OpAdd, x(1), num(1)), api.Value{}}, {op(api.OpAdd, num(1), x(1)), api.Value{}}, {op(api.OpSub, null, num(1)), api.Value{}}, {op(api.OpMul, num(0), x(1)), api.Value{}}, {op(api.OpDiv, x(1), num(2)), api.Value{}}, {op(api.OpMod, x(1), num(2)), api.Value{}}, {op(api.OpAdd, num(1), op(api.OpNeg, null)), api.Value{}},
		{op(api.OpAdd, num(1<<59), num(1<<59)), value.Int(1 << 60)},
	} {
		if got := Value(c.e, row); got != c.want {
			t.Errorf("case %d: the value is %v, want %v", i, got, c.want)
		}
	}
}

func TestComparisons(t *testing.T) {
	ops := []int{api.OpEq, api.OpNe, api.OpLt, api.OpLe, api.OpGt, api.OpGe}
	holds := [][]bool{{false, true, true, true, false, false}, {true, false, false, true, false, true}, {false, true, false, false, true, true}}
	pairs := []struct {
		a, b api.Expr
		sign int // of a compared with b
	}{
		{num(1), num(2), -1}, {num(2), num(2), 0}, {x(4), x(0), 1}, {num(-3), num(-2), -1},
		{str("a"), str("b"), -1}, {str("a"), str("aa"), -1}, {str("a"), str("a"), 0}, {str("a"), str("B"), 1}, {str(""), str(" "), -1}, {x(2), str("abb"), 1}, {x(2), str("abc"), 0}, {str("abcd"), x(2), 1}, {str("~"), str("a"), 1},
	}
	for _, p := range pairs {
		for i, o := range ops {
			want := api.False
			if holds[p.sign+1][i] {
				want = api.True
			}
			if got := Condition(op(o, p.a, p.b), row); got != want {
				t.Errorf("operator %d on %v and %v is %d", o, p.a, p.b, got)
			}
			for _, n := range []api.Expr{null, x(1), x(3), op(api.OpNeg, x(1))} {
				if Condition(op(o, p.a, n), row) != api.Unknown || Condition(op(o, n, p.b), row) != api.Unknown || Condition(op(o, n, n), row) != api.Unknown {
					t.Errorf("operator %d with NULL", o)
				}
			}
		}
	}
}

func TestConditions(t *testing.T) {
	yes, no, unknown := op(api.OpEq, num(1), num(1)), op(api.OpEq, num(1), num(2)), op(api.OpLt, x(0), x(1))
	exprs := []api.Expr{no, unknown, yes}
	truths := []api.Truth{api.False, api.Unknown, api.True}
	for i, a := range exprs {
		if Condition(a, row) != truths[i] || Condition(op(api.OpNot, a), row) != truths[2-i] {
			t.Errorf("NOT of %d", truths[i])
		}
		for j, b := range exprs {
			if Condition(op(api.OpAnd, a, b), row) != truths[min(i, j)] || Condition(op(api.OpOr, a, b), row) != truths[max(i, j)] {
				t.Errorf("AND or OR of %d and %d", truths[i], truths[j])
			}
		}
	}
	for i, c := range []struct {
		e    api.Expr
		want api.Truth
	}{
		{null, api.Unknown}, {op(api.OpNot, null), api.Unknown}, {op(api.OpAnd, null, no), api.False}, {op(api.OpOr, null, yes), api.True},
		{op(api.OpIsNull, x(1)), api.True}, {op(api.OpIsNull, x(3)), api.True}, {op(api.OpIsNull, x(0)), api.False}, {op(api.OpIsNull, null), api.True}, {op(api.OpIsNull, op(api.OpAdd, x(0), x(1))), api.True}, {op(api.OpIsNull, op(api.OpAdd, x(0), num(1))), api.False}, {op(api.OpIsNull, str("")), api.False},
		{op(api.OpLike, x(2), str("a%")), api.True}, {op(api.OpLike, x(2), str("b%")), api.False}, {op(api.OpLike, x(3), str("%")), api.Unknown}, {op(api.OpLike, null, str("%")), api.Unknown}, {op(api.OpLike, str("x"), str("_")), api.True},
		{op(api.OpNot, op(api.OpLike, x(3), str("%"))), api.Unknown},
		{op(api.OpOr, op(api.OpLt, x(0), num(0)), op(api.OpLt, x(0), x(1))), api.True}, {op(api.OpNot, op(api.OpLt, x(0), x(1))), api.Unknown},
	} {
		if got := Condition(c.e, row); got != c.want {
			t.Errorf("case %d is %d, want %d", i, got, c.want)
		}
		if Matches(c.e, row) != (c.want == api.True) {
			t.Errorf("case %d: Matches", i)
		}
	}
	if !Matches(api.Expr{}, row) || !Matches(api.Expr{}, nil) {
		t.Error("an absent condition")
	}
}

func TestConstant(t *testing.T) {
	for i, c := range []struct {
		e    api.Expr
		want api.Value
		err  api.Errno
	}{{op(api.OpAdd, num(2), num(3)), value.Int(5), api.OK}, {str("a"), value.Text("a"), api.OK}, {null, api.Value{}, api.OK}, {op(api.OpNeg, null), api.Value{}, api.OK}, {op(api.OpMod, num(-7), num(4)), value.Int(1), api.OK}, {op(api.OpLength, str("abc")), value.Int(3), api.OK}, {x(0), api.Value{}, api.ErrInvalid}, {op(api.OpAdd, num(1), op(api.OpLength, x(2))), api.Value{}, api.ErrInvalid}, {op(api.OpMul, num(0), x(0)), api.Value{}, api.ErrInvalid}} {
		if got, err := Constant(c.e); got != c.want || err != c.err {
			t.Errorf("case %d: %v, %d", i, got, err)
		}
	}
}

// like is the definition, read from left to right.
func like(text, pattern string) bool {
	switch {
	case pattern == "":
		return text == ""
	case pattern[0] == '%':
		for n := range len(text) + 1 {
			if like(text[n:], pattern[1:]) {
				return true
			}
		}
		return false
	}
	return text != "" && (pattern[0] == '_' || pattern[0] == text[0]) && like(text[1:], pattern[1:])
}

func TestLike(t *testing.T) {
	for _, c := range []struct {
		text, pattern string
		want          bool
	}{{"abc", "a%", true}, {"abc", "_b_", true}, {"abc", "%", true}, {"abc", "b%", false}, {"abc", "ab", false}, {"", "", true}, {"", "%", true}, {"", "_", false}, {"a", "", false}, {"%", "_", true}, {"a", "%%", true}, {"abab", "%ab", true}, {"aXbXc", "a%b%c", true}, {"\xff\x00", "__", true}, {"a", "A", false}} {
		if Like(c.text, c.pattern) != c.want {
			t.Errorf("Like(%q, %q)", c.text, c.pattern)
		}
	}
	var texts, patterns []string
	fill := func(l *[]string, alphabet string, most int) {
		*l = append(*l, "")
		for from, n := 0, 0; n < most; n++ {
			to := len(*l)
			for _, s := range (*l)[from:to] {
				for _, c := range alphabet {
					*l = append(*l, s+string(c))
				}
			}
			from = to
		}
	}
	fill(&texts, "ab", 5)
	fill(&patterns, "ab_%", 4)
	for _, s := range texts {
		for _, p := range patterns {
			if Like(s, p) != like(s, p) {
				t.Fatalf("Like(%q, %q) = %v", s, p, Like(s, p))
			}
		}
	}
	if Like(strings.Repeat("a", 5000), strings.Repeat("%a", 2000)+"b") {
		t.Error("a long pattern")
	}
}

// The remainder by a positive divisor is at least 0 and less than it, and quotient and remainder fit together.
func TestDivision(t *testing.T) {
	r := rand.New(rand.NewSource(19))
	for range 5000 {
		a, b := r.Int63n(1<<60)-r.Int63n(1<<60), 1+r.Int63n(1000)
		q, m := new(big.Int).DivMod(big.NewInt(a), big.NewInt(b), new(big.Int))
		if Value(op(api.OpDiv, num(a), num(b)), nil).Int != q.Int64() || Value(op(api.OpMod, num(a), num(b)), nil).Int != m.Int64() {
			t.Fatalf("%d divided by %d", a, b)
		}
	}
}

func random(r *rand.Rand, depth int) api.Expr {
	if depth == 0 {
		ops := []int{api.OpEq, api.OpNe, api.OpLt, api.OpLe, api.OpGt, api.OpGe}
		if r.Intn(4) == 0 {
			return op(api.OpLike, x(2), str([]string{"a%", "%b", "_"}[r.Intn(3)]))
		}
		return op(ops[r.Intn(6)], op(api.OpAdd, x(r.Intn(2)), num(r.Int63n(3))), x(r.Intn(2)))
	}
	switch r.Intn(3) {
	case 0:
		return op(api.OpNot, random(r, depth-1))
	case 1:
		return op(api.OpAnd, random(r, depth-1), random(r, depth-1))
	}
	return op(api.OpOr, random(r, depth-1), random(r, depth-1))
}

// A condition without IS NULL that is known stays the same if values take the place of NULL.
func TestMonotone(t *testing.T) {
	r := rand.New(rand.NewSource(20))
	known := 0
	for range 5000 {
		e := random(r, 3)
		full := api.Row{value.Int(r.Int63n(3)), value.Int(r.Int63n(3)), value.Text([]string{"a", "ab", "b"}[r.Intn(3)])}
		part := append(api.Row(nil), full...)
		for i := range part {
			if r.Intn(2) == 0 {
				part[i] = api.Value{}
			}
		}
		if v := Condition(e, part); v != api.Unknown {
			known++
			if Condition(e, full) != v {
				t.Fatalf("%v: %d in %v, and %d in %v", e, v, part, Condition(e, full), full)
			}
		}
	}
	if known < 1000 {
		t.Errorf("only %d conditions were known", known)
	}
}
