package linear

import (
	"math"
	"math/big"
	"math/rand"
	"reflect"
	"slices"
	"testing"

	"disjoint/api"
	"disjoint/copies"
	"disjoint/value"
)

func op(o int, args ...api.Expr) api.Expr { return api.Expr{Op: o, Args: args} }

func num(n int64) api.Expr { return api.Expr{Op: api.OpLiteral, Value: value.Int(n)} }

func str(s string) api.Expr { return api.Expr{Op: api.OpLiteral, Value: value.Text(s)} }

func x(i int) api.Expr { return api.Expr{Op: api.OpColumn, Name: "c", Index: i} }

func part(coef int64, v int) api.Part { return api.Part{Coef: coef, Kind: api.PartColumn, Var: v} }

func length(coef int64, v int) api.Part {
	return api.Part{Coef: coef, Kind: api.PartLength, Var: v}
}

func quotient(coef, by int64, of api.Term) api.Part {
	return api.Part{Coef: coef, Kind: api.PartDiv, By: by, Of: []api.Term{of}}
}

func sum(c int64, parts ...api.Part) api.Term { return api.Term{Const: c, Parts: parts} }

func of(t *testing.T, e api.Expr) api.Term {
	t.Helper()
	s, err := Of(e)
	if err != api.OK || !Valid(s) {
		t.Fatalf("Of: %v, %d", s, err)
	}
	return s
}

func TestTexts(t *testing.T) {
	for want, e := range map[string]api.Expr{
		"2*x0 + 6":                           op(api.OpSub, op(api.OpMul, num(3), op(api.OpAdd, x(0), num(2))), x(0)),
		"x1 - 4*div(x1, 4)":                  op(api.OpMod, x(1), num(4)),
		"0":                                  op(api.OpSub, x(0), x(0)),
		"-x0":                                op(api.OpNeg, x(0)),
		"-5":                                 op(api.OpNeg, num(5)),
		"7":                                  op(api.OpLength, str("it's 7x")),
		"length(x2)":                         op(api.OpLength, x(2)),
		"x0":                                 op(api.OpDiv, x(0), num(1)),
		"-4":                                 op(api.OpDiv, num(-7), num(2)),
		"1":                                  op(api.OpMod, num(-7), num(2)),
		"x0 + x3 - 2*length(x1) - 1":         op(api.OpSub, op(api.OpAdd, x(3), op(api.OpSub, x(0), num(1))), op(api.OpMul, op(api.OpLength, x(1)), num(2))),
		"div(x0, 2) - 3*div(x0 + 1, 2)":      op(api.OpSub, op(api.OpDiv, x(0), num(2)), op(api.OpMul, num(3), op(api.OpDiv, op(api.OpAdd, x(0), num(1)), num(2)))),
		"div(-2*div(x0, 3) + 5, 7) + 1":      op(api.OpAdd, num(1), op(api.OpDiv, op(api.OpSub, num(5), op(api.OpMul, num(2), op(api.OpDiv, x(0), num(3)))), num(7))),
		"12*x0 - 12":                         op(api.OpMul, op(api.OpSub, x(0), num(1)), num(12)),
		"x0 - 1000*div(x0, 1000)":            op(api.OpMod, x(0), num(1000)),
		"div(x0, 2) + div(x1, 2)":            op(api.OpAdd, op(api.OpDiv, x(1), num(2)), op(api.OpDiv, x(0), num(2))),
		"div(2*x0, 2)":                       op(api.OpDiv, op(api.OpMul, num(2), x(0)), num(2)),
		"div(x0, 2) + div(x0, 3)":            op(api.OpAdd, op(api.OpDiv, x(0), num(3)), op(api.OpDiv, x(0), num(2))),
		"x0 + x1 + length(x0) + div(x0, 2)":  op(api.OpAdd, op(api.OpDiv, x(0), num(2)), op(api.OpAdd, op(api.OpLength, x(0)), op(api.OpAdd, x(1), x(0)))),
		"-x0 - length(x1) - div(x0, 2) - 10": op(api.OpNeg, op(api.OpAdd, op(api.OpAdd, op(api.OpDiv, x(0), num(2)), op(api.OpLength, x(1))), op(api.OpAdd, x(0), num(10)))),
	} {
		if got := Format(of(t, e)); got != want {
			t.Errorf("the term is %s, want %s", got, want)
		}
	}
}

func TestErrors(t *testing.T) {
	bad := op(api.OpMul, x(0), x(1))
	big := num(1 << 41)
	for i, c := range []struct {
		e    api.Expr
		want api.Errno
	}{
		{bad, api.ErrUnsupported}, {api.Expr{}, api.ErrType}, {op(api.OpEq, x(0), x(1)), api.ErrType}, {op(99, x(0)), api.ErrType}, {str("a"), api.ErrType}, {api.Expr{Op: api.OpLiteral}, api.ErrType},
		{op(api.OpNeg), api.ErrType}, {op(api.OpNeg, x(0), x(0)), api.ErrType}, {op(api.OpAdd, x(0)), api.ErrType}, {op(api.OpAdd, x(0), x(0), x(0)), api.ErrType}, {op(api.OpLength), api.ErrType}, {op(api.OpLength, x(0), x(0)), api.ErrType}, {op(api.OpLiteral, x(0)), api.ErrType}, {op(api.OpColumn, x(0)), api.ErrType}, {op(api.OpDiv, x(0)), api.ErrType}, {op(api.OpSub, x(0), x(0), x(0)), api.ErrType},
		{x(-1), api.ErrType}, {op(api.OpLength, x(-1)), api.ErrType}, {op(api.OpLength, num(1)), api.ErrType}, {op(api.OpLength, op(api.OpLength, x(0))), api.ErrType}, {op(api.OpLength, api.Expr{Op: api.OpLiteral}), api.ErrType},
		{op(api.OpDiv, x(0), x(1)), api.ErrUnsupported}, {op(api.OpDiv, x(0), num(0)), api.ErrUnsupported}, {op(api.OpDiv, x(0), num(-1)), api.ErrUnsupported}, {op(api.OpDiv, x(0), num(1001)), api.ErrUnsupported}, {op(api.OpMod, x(0), num(1001)), api.ErrUnsupported}, {op(api.OpMod, num(1), num(0)), api.ErrUnsupported}, {op(api.OpMod, x(0), x(0)), api.ErrUnsupported},
		{big, api.ErrTooLarge}, {num(1<<40 + 1), api.ErrTooLarge}, {num(-1<<40 - 1), api.ErrTooLarge}, {num(math.MinInt64), api.ErrTooLarge}, {op(api.OpAdd, num(1<<40), num(1)), api.ErrTooLarge}, {op(api.OpMul, num(1<<21), num(1<<20)), api.ErrTooLarge}, {op(api.OpMul, num(1<<20+1), x(0)), api.ErrTooLarge}, {op(api.OpMul, x(0), num(-1<<20-1)), api.ErrTooLarge}, {op(api.OpAdd, op(api.OpMul, x(0), num(1<<20)), x(0)), api.ErrTooLarge},
		{op(api.OpSub, op(api.OpMul, num(-1<<20), x(0)), x(0)), api.ErrTooLarge}, {op(api.OpMod, op(api.OpMul, num(1<<20), op(api.OpMod, x(0), num(1000))), num(2)), api.ErrTooLarge}, {op(api.OpMul, num(1<<19), op(api.OpMod, x(0), num(3))), api.ErrTooLarge},
		{op(api.OpAdd, bad, big), api.ErrUnsupported}, {op(api.OpAdd, big, bad), api.ErrTooLarge}, {op(api.OpAdd, str("a"), bad), api.ErrType}, {op(api.OpEq, bad, x(0)), api.ErrUnsupported}, {op(api.OpAdd, x(0), x(1), bad), api.ErrUnsupported}, {op(api.OpLength, bad), api.ErrUnsupported}, {op(api.OpDiv, big, num(0)), api.ErrTooLarge},
	} {
		if s, err := Of(c.e); err != c.want || !reflect.DeepEqual(s, api.Term{}) {
			t.Errorf("case %d: %v, %d, want %d", i, s, err, c.want)
		}
	}
	for _, e := range []api.Expr{num(1 << 40), num(-1 << 40), op(api.OpMul, num(1<<20), x(0)), op(api.OpMul, num(1<<20), num(1<<20)), op(api.OpDiv, x(0), num(1000)), op(api.OpSub, op(api.OpMul, x(0), num(1<<20)), x(0)), op(api.OpMul, num(0), bigSum(9))} {
		if _, err := Of(e); err != api.OK {
			t.Errorf("%v: %d", e, err)
		}
	}
}

// A literal has no operands, wherever it occurs; the errors of its operands precede its own.
func TestLiteralsWithOperands(t *testing.T) {
	null := api.Expr{Op: api.OpLiteral}
	with := func(e api.Expr, args ...api.Expr) api.Expr {
		e.Args = args
		return e
	}
	operands := []struct {
		args []api.Expr
		want api.Errno
	}{
		{[]api.Expr{num(1)}, api.ErrType}, {[]api.Expr{x(0)}, api.ErrType}, {[]api.Expr{str("b")}, api.ErrType}, {[]api.Expr{null}, api.ErrType}, {[]api.Expr{num(1), num(2)}, api.ErrType}, {[]api.Expr{x(0), x(1), x(2)}, api.ErrType},
		{[]api.Expr{op(api.OpMul, x(0), x(1))}, api.ErrUnsupported}, {[]api.Expr{num(1 << 41)}, api.ErrTooLarge}, {[]api.Expr{num(1), op(api.OpMul, x(0), x(1))}, api.ErrUnsupported}, {[]api.Expr{num(1 << 41), op(api.OpMul, x(0), x(1))}, api.ErrTooLarge},
	}
	for i, c := range operands {
		for _, literal := range []api.Expr{str("a"), str(""), num(1), null} {
			bad := with(literal, c.args...)
			for _, e := range []api.Expr{bad, op(api.OpLength, bad), op(api.OpLength, op(api.OpLength, bad)), op(api.OpNeg, bad), op(api.OpAdd, op(api.OpLength, bad), op(api.OpMul, x(0), x(1))), op(api.OpDiv, x(0), op(api.OpLength, bad))} {
				if s, err := Of(e); err != c.want || !reflect.DeepEqual(s, api.Term{}) {
					t.Errorf("operands %d of %s in %v: %v, %d, want %d", i, value.Format(literal.Value), e, s, err, c.want)
				}
			}
		}
	}
	for _, empty := range [][]api.Expr{nil, {}} {
		if s := of(t, op(api.OpLength, with(str("abc"), empty...))); s.Const != 3 || len(s.Parts) != 0 {
			t.Errorf("LENGTH of a literal text: %v", s)
		}
	}
}

// bigSum is 2^20 times the sum of n columns.
func bigSum(n int) api.Expr {
	e := x(0)
	for i := range n - 1 {
		e = op(api.OpAdd, e, x(i+1))
	}
	return op(api.OpMul, num(1<<20), e)
}

// The bound of a term is at most 2^60.
func TestBound(t *testing.T) {
	parts := func(n int) []api.Part {
		var l []api.Part
		for i := range n {
			l = append(l, part(1<<20, i))
		}
		return l
	}
	if !Valid(sum(0, parts(512)...)) || Valid(sum(1, parts(512)...)) || Valid(sum(0, parts(513)...)) || Valid(sum(-1, parts(512)...)) {
		t.Error("the bound of columns")
	}
	exact := sum(0, parts(511)...)
	half := sum(0, append(parts(511), quotient(1<<20, 2, sum(0, part(1, 0))))...)
	if !Valid(half) {
		t.Error("the bound of a quotient")
	}
	// The bound of div(2*x0, 2) is 2^31 + 1, which is more than that of x0.
	if Valid(sum(0, append(parts(511), quotient(1<<20, 2, sum(0, part(2, 0))))...)) || !Valid(sum(1<<20*16, append(slices.Clone(exact.Parts), length(1<<20, 0))...)) {
		t.Error("the bound of a quotient or a length")
	}
	if _, e := Add(exact, sum(0, part(1<<20, 600))); e != api.OK {
		t.Errorf("Add: %d", e)
	}
	if s, e := Add(exact, sum(0, part(1<<20, 600), part(1, 601))); e != api.ErrTooLarge || !reflect.DeepEqual(s, api.Term{}) {
		t.Errorf("Add: %v, %d", s, e)
	}
	many := sum(0)
	for i := range 600 {
		many.Parts = append(many.Parts, part(1<<19, i))
	}
	if s, e := Scale(many, 2); e != api.ErrTooLarge || !reflect.DeepEqual(s, api.Term{}) {
		t.Errorf("Scale: %v, %d", s, e)
	}
	if _, e := Scale(many, -1); e != api.OK {
		t.Errorf("Scale by -1: %d", e)
	}
}

func TestValid(t *testing.T) {
	good := []api.Term{sum(0), sum(-1 << 40), sum(1 << 40), sum(5, part(1, 0)), sum(0, part(1<<20, 0), part(-1<<20, 3)), sum(0, part(2, 1), length(-1, 0)), sum(0, quotient(1, 2, sum(7, part(1, 0))), quotient(1, 1000, sum(7, part(1, 0)))), sum(0, quotient(1, 2, sum(7, part(1, 0))), quotient(1, 2, sum(8, part(1, 0)))), sum(0, quotient(1, 3, sum(0, quotient(2, 5, sum(0, part(1, 9))))))}
	for i, s := range good {
		if !Valid(s) {
			t.Errorf("term %d is not normal: %s", i, Format(s))
		}
	}
	inner := sum(0, part(1, 0))
	for i, s := range []api.Term{
		sum(1<<40 + 1), sum(-1<<40 - 1), sum(math.MinInt64), sum(0, part(0, 0)), sum(0, part(1<<20+1, 0)), sum(0, part(-1<<20-1, 0)), sum(0, part(math.MinInt64, 0)), sum(0, part(1, -1)), sum(0, length(1, -1)),
		sum(0, part(1, 1), part(1, 0)), sum(0, part(1, 1), part(2, 1)), sum(0, length(1, 0), part(1, 1)), sum(0, quotient(1, 3, inner), quotient(1, 2, inner)), sum(0, quotient(1, 2, inner), quotient(2, 2, inner)), sum(0, quotient(1, 2, inner), length(1, 0)),
		sum(0, quotient(1, 1, inner)), sum(0, quotient(1, 0, inner)), sum(0, quotient(1, -2, inner)), sum(0, quotient(1, 1001, inner)), sum(0, quotient(1, 2, sum(4))), sum(0, quotient(1, 2, sum(1<<41, part(1, 0)))), sum(0, quotient(0, 2, inner)),
		sum(0, api.Part{Coef: 1, Kind: api.PartDiv, By: 2}), sum(0, api.Part{Coef: 1, Kind: api.PartDiv, By: 2, Of: []api.Term{inner, inner}}), sum(0, api.Part{Coef: 1, Kind: api.PartDiv, Var: 1, By: 2, Of: []api.Term{inner}}), sum(0, api.Part{Coef: 1, By: 2}), sum(0, api.Part{Coef: 1, Of: []api.Term{inner}}), sum(0, api.Part{Coef: 1, Kind: api.PartLength, By: 2}), sum(0, api.Part{Coef: 1, Kind: 3}), sum(0, api.Part{Coef: 1, Kind: -1}),
		sum(0, part(1, 0), api.Part{Coef: 1, Kind: api.PartDiv, By: 2}),
	} {
		if Valid(s) {
			t.Errorf("term %d is normal", i)
		}
	}
}

// ascending are normal terms in the order of terms.
var ascending = []api.Term{
	sum(-1), sum(0), sum(4),
	sum(0, part(-2, 0)), sum(0, part(-2, 0), part(-1, 1)), sum(-5, part(1, 0)), sum(7, part(1, 0)), sum(-9, part(1, 0), part(1, 1)), sum(0, part(1, 0), length(1, 0)), sum(0, part(2, 0)), sum(0, part(-9, 1)),
	sum(0, length(1, 0)), sum(0, length(1, 1)),
	sum(0, quotient(5, 2, sum(-1, part(1, 0)))), sum(0, quotient(-1, 2, sum(0, part(1, 0)))), sum(0, quotient(1, 2, sum(0, part(1, 0)))), sum(0, quotient(1, 2, sum(0, part(1, 1)))), sum(0, quotient(-7, 3, sum(0, part(-1, 0)))),
}

func TestOrder(t *testing.T) {
	texts := map[string]bool{}
	for i, a := range ascending {
		if !Valid(a) {
			t.Fatalf("term %d is not normal", i)
		}
		texts[Format(a)] = true
		for j, b := range ascending {
			want := 0
			if i < j {
				want = -1
			} else if i > j {
				want = 1
			}
			if Compare(a, b) != want {
				t.Errorf("Compare(%s, %s) = %d", Format(a), Format(b), Compare(a, b))
			}
		}
	}
	if len(texts) != len(ascending) {
		t.Error("different terms have the same text")
	}
}

// random returns an integer expression, and its value in a row, computed with integers of any size.
func random(r *rand.Rand, depth int, row api.Row) (api.Expr, *big.Int) {
	if depth == 0 || r.Intn(6) == 0 {
		switch i := r.Intn(6); {
		case i < 2:
			n := r.Int63n(20) - 8
			return num(n), big.NewInt(n)
		case i < 5:
			c := r.Intn(3)
			return x(c), big.NewInt(row[c].Int)
		}
		return op(api.OpLength, x(3)), big.NewInt(int64(len(row[3].Text)))
	}
	a, m := random(r, depth-1, row)
	switch k := r.Intn(6); k {
	case 0:
		return op(api.OpNeg, a), new(big.Int).Neg(m)
	case 1, 2:
		b, n := random(r, depth-1, row)
		if k == 1 {
			return op(api.OpAdd, a, b), new(big.Int).Add(m, n)
		}
		return op(api.OpSub, a, b), new(big.Int).Sub(m, n)
	case 3:
		n := r.Int63n(11) - 5
		if r.Intn(2) == 0 {
			return op(api.OpMul, a, num(n)), new(big.Int).Mul(m, big.NewInt(n))
		}
		return op(api.OpMul, op(api.OpSub, num(n), num(0)), a), new(big.Int).Mul(m, big.NewInt(n))
	default:
		by := 1 + r.Int63n(6)
		q, rest := new(big.Int).DivMod(m, big.NewInt(by), new(big.Int))
		if k == 4 {
			return op(api.OpDiv, a, num(by)), q
		}
		return op(api.OpMod, a, op(api.OpAdd, num(by-1), num(1))), rest
	}
}

func randomRow(r *rand.Rand) api.Row {
	ints := []int64{0, 1, -1, 7, -13, 1000, api.MinInteger, api.MaxInteger}
	row := make(api.Row, 4)
	for i := range 3 {
		row[i] = value.Int(ints[r.Intn(len(ints))])
	}
	row[3] = value.Text("sixteen letters!"[:r.Intn(17)])
	return row
}

func TestValues(t *testing.T) {
	r := rand.New(rand.NewSource(17))
	for range 20000 {
		row := randomRow(r)
		e, want := random(r, r.Intn(7), row)
		kept := copies.Expr(e)
		s := of(t, e)
		if got, ok := Value(s, row); !ok || want.Cmp(big.NewInt(got)) != 0 {
			t.Fatalf("the value of %s is %d, want %s", Format(s), got, want)
		}
		if !reflect.DeepEqual(e, kept) {
			t.Fatal("Of changes its argument")
		}
	}
}

func TestArithmetic(t *testing.T) {
	r := rand.New(rand.NewSource(18))
	for range 5000 {
		row := randomRow(r)
		e, m := random(r, 4, row)
		f, n := random(r, 4, row)
		a, b := of(t, e), of(t, f)
		keptA, keptB := copies.Term(a), copies.Term(b)
		k := r.Int63n(9) - 4
		by := 1 + r.Int63n(5)
		total, e1 := Add(a, b)
		product, e2 := Scale(a, k)
		quo, e3 := Div(a, by)
		if e1 != api.OK || e2 != api.OK || e3 != api.OK || !Valid(total) || !Valid(product) || !Valid(quo) {
			t.Fatalf("%s, %s: %d, %d, %d", Format(a), Format(b), e1, e2, e3)
		}
		for _, c := range []struct {
			t    api.Term
			want *big.Int
		}{{total, new(big.Int).Add(m, n)}, {product, new(big.Int).Mul(m, big.NewInt(k))}, {quo, new(big.Int).Div(m, big.NewInt(by))}} {
			if got, ok := Value(c.t, row); !ok || c.want.Cmp(big.NewInt(got)) != 0 {
				t.Fatalf("the value of %s is %d, want %s", Format(c.t), got, c.want)
			}
			spoil(c.t)
		}
		if !reflect.DeepEqual(a, keptA) || !reflect.DeepEqual(b, keptB) {
			t.Fatal("an argument is changed, or shares memory with a result")
		}
	}
}

// spoil changes all memory of a term.
func spoil(s api.Term) {
	for i := range s.Parts {
		for _, q := range s.Parts[i].Of {
			spoil(q)
		}
		s.Parts[i].Coef = 77
	}
}

func TestScaleAndDivErrors(t *testing.T) {
	one := sum(1, part(1, 0))
	for _, n := range []int64{math.MaxInt64, math.MinInt64, 1<<20 + 1, -1<<20 - 1} {
		if s, e := Scale(one, n); e != api.ErrTooLarge || !reflect.DeepEqual(s, api.Term{}) {
			t.Errorf("Scale by %d: %v, %d", n, s, e)
		}
		if s, e := Scale(sum(0), n); e != api.OK || !reflect.DeepEqual(s, api.Term{}) {
			t.Errorf("Scale of 0 by %d: %v, %d", n, s, e)
		}
	}
	if s, e := Scale(sum(1), 1<<40); e != api.OK || s.Const != 1<<40 {
		t.Errorf("Scale: %v, %d", s, e)
	}
	for _, n := range []int64{1<<40 + 1, math.MinInt64} {
		if _, e := Scale(sum(1), n); e != api.ErrTooLarge {
			t.Errorf("Scale of 1 by %d: %d", n, e)
		}
	}
	if _, e := Scale(sum(1<<21), -1<<20); e != api.ErrTooLarge {
		t.Errorf("Scale: %d", e)
	}
	if s, e := Scale(one, 0); e != api.OK || len(s.Parts) != 0 || s.Const != 0 {
		t.Errorf("Scale by 0: %v, %d", s, e)
	}
	for _, by := range []int64{0, -1, 1001, math.MinInt64, math.MaxInt64} {
		if s, e := Div(one, by); e != api.ErrInvalid || !reflect.DeepEqual(s, api.Term{}) {
			t.Errorf("Div by %d: %v, %d", by, s, e)
		}
	}
	if s, e := Div(sum(-7), 1000); e != api.OK || s.Const != -1 {
		t.Errorf("Div: %v, %d", s, e)
	}
	same, _ := Div(one, 1)
	same.Parts[0].Coef = 9
	if one.Parts[0].Coef != 1 {
		t.Error("Div by 1 shares memory with its argument")
	}
}

func TestNoValue(t *testing.T) {
	row := api.Row{value.Int(1), {}, value.Text("abc")}
	for _, s := range []api.Term{sum(5, part(1, 1)), sum(5, part(1, 2)), sum(5, part(1, 3)), sum(5, length(1, 0)), sum(5, length(1, 1)), sum(5, length(1, 9)), sum(1, part(1, 0), part(1, 1)), sum(0, quotient(1, 2, sum(0, part(1, 1)))), sum(0, quotient(1, 2, sum(0, length(1, 0))))} {
		if n, ok := Value(s, row); n != 0 || ok {
			t.Errorf("the value of %s is %d", Format(s), n)
		}
	}
	if n, ok := Value(sum(4, length(2, 2)), row); n != 10 || !ok {
		t.Errorf("the value is %d, %v", n, ok)
	}
	if n, ok := Value(sum(4), nil); n != 4 || !ok {
		t.Errorf("the value of a constant is %d, %v", n, ok)
	}
}

func TestVariables(t *testing.T) {
	for _, c := range []struct {
		s    api.Term
		want []int
	}{{sum(3), nil}, {sum(0, part(1, 2), length(1, 0)), []int{0, 2}}, {sum(0, part(1, 5), quotient(1, 2, sum(0, part(1, 5), quotient(1, 3, sum(0, length(1, 1)))))), []int{1, 5}}} {
		if got := Variables(c.s); !slices.Equal(got, c.want) {
			t.Errorf("Variables(%s) = %v", Format(c.s), got)
		}
	}
}
