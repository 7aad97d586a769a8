package parser

import (
	"strconv"

	"disjoint/api"
	"disjoint/lexer"
)

func node(op int, args ...api.Expr) api.Expr { return api.Expr{Op: op, Args: args} }

func literal(v api.Value) api.Expr { return api.Expr{Op: api.OpLiteral, Value: v} }

// chain parses operands with binary operators between them, from left to right; operator returns OpNone for a token that is none of them.
func (p *parser) chain(kind int, operator func(string) int, operand func() (api.Expr, bool)) (api.Expr, bool) {
	e, ok := operand()
	for ok {
		t := p.next()
		if t.Kind != kind || operator(t.Text) == api.OpNone {
			return e, true
		}
		p.pos++
		var right api.Expr
		right, ok = operand()
		e = node(operator(t.Text), e, right)
	}
	return api.Expr{}, false
}

func (p *parser) expr() (api.Expr, bool) {
	return p.chain(lexer.Keyword, orOperator, p.conjunction)
}

func (p *parser) conjunction() (api.Expr, bool) {
	return p.chain(lexer.Keyword, andOperator, p.negation)
}

func (p *parser) sum() (api.Expr, bool) {
	return p.chain(lexer.Symbol, sumOperator, p.product)
}

func (p *parser) product() (api.Expr, bool) {
	return p.chain(lexer.Symbol, productOperator, p.unary)
}

func orOperator(s string) int {
	if s == "OR" {
		return api.OpOr
	}
	return api.OpNone
}

func andOperator(s string) int {
	if s == "AND" {
		return api.OpAnd
	}
	return api.OpNone
}

func sumOperator(s string) int {
	switch s {
	case "+":
		return api.OpAdd
	case "-":
		return api.OpSub
	}
	return api.OpNone
}

func productOperator(s string) int {
	switch s {
	case "*":
		return api.OpMul
	case "/":
		return api.OpDiv
	case "%":
		return api.OpMod
	}
	return api.OpNone
}

func comparison(s string) int {
	switch s {
	case "=":
		return api.OpEq
	case "<>":
		return api.OpNe
	case "<":
		return api.OpLt
	case "<=":
		return api.OpLe
	case ">":
		return api.OpGt
	case ">=":
		return api.OpGe
	}
	return api.OpNone
}

func (p *parser) negation() (api.Expr, bool) {
	if !p.keyword("NOT") {
		return p.test()
	}
	e, ok := p.negation()
	return node(api.OpNot, e), ok
}

func (p *parser) test() (api.Expr, bool) {
	x, ok := p.sum()
	if !ok {
		return api.Expr{}, false
	}
	t := p.next()
	if t.Kind == lexer.Symbol && comparison(t.Text) != api.OpNone {
		p.pos++
		y, ok := p.sum()
		return node(comparison(t.Text), x, y), ok
	}
	if p.keyword("IS") {
		not := p.keyword("NOT")
		return negated(node(api.OpIsNull, x), not), p.keyword("NULL")
	}
	not := p.keyword("NOT")
	var e api.Expr
	switch {
	case p.keyword("LIKE"):
		e, ok = p.like(x)
	case p.keyword("BETWEEN"):
		e, ok = p.between(x)
	case p.keyword("IN"):
		e, ok = p.in(x)
	default:
		return x, !not
	}
	return negated(e, not), ok
}

func negated(e api.Expr, not bool) api.Expr {
	if not {
		return node(api.OpNot, e)
	}
	return e
}

func (p *parser) like(x api.Expr) (api.Expr, bool) {
	s, ok := p.word(lexer.String)
	return node(api.OpLike, x, literal(api.Value{Kind: api.Text, Text: s})), ok
}

func (p *parser) between(x api.Expr) (api.Expr, bool) {
	low, ok := p.sum()
	if !ok || !p.keyword("AND") {
		return api.Expr{}, false
	}
	high, ok := p.sum()
	return node(api.OpAnd, node(api.OpGe, x, low), node(api.OpLe, p.again(x), high)), ok
}

func (p *parser) in(x api.Expr) (api.Expr, bool) {
	l, ok := group(p, p.sum)
	if !ok {
		return api.Expr{}, false
	}
	e := node(api.OpEq, x, l[0])
	for _, y := range l[1:] {
		e = node(api.OpOr, e, node(api.OpEq, p.again(x), y))
	}
	return e, true
}

func (p *parser) unary() (api.Expr, bool) {
	if !p.symbol("-") {
		return p.primary()
	}
	e, ok := p.primary()
	return node(api.OpNeg, e), ok
}

func (p *parser) primary() (api.Expr, bool) {
	switch t := p.next(); {
	case t.Kind == lexer.Word:
		return p.column()
	case t.Kind == lexer.Number:
		n, ok := p.number()
		return literal(api.Value{Kind: api.Integer, Int: n}), ok
	case t.Kind == lexer.String:
		p.pos++
		return literal(api.Value{Kind: api.Text, Text: t.Text}), true
	case p.keyword("NULL"):
		return literal(api.Value{}), true
	case p.keyword("LENGTH"):
		e, ok := p.enclosed()
		return node(api.OpLength, e), ok
	}
	return p.enclosed()
}

// enclosed parses an expression in parentheses.
func (p *parser) enclosed() (api.Expr, bool) {
	if !p.symbol("(") {
		return api.Expr{}, false
	}
	e, ok := p.expr()
	return e, ok && p.symbol(")")
}

func (p *parser) column() (api.Expr, bool) {
	e := api.Expr{Op: api.OpColumn}
	var ok bool
	e.Name, ok = p.name()
	if ok && p.symbol(".") {
		e.Table = e.Name
		e.Name, ok = p.name()
	}
	return e, ok
}

func (p *parser) number() (int64, bool) {
	s, ok := p.word(lexer.Number)
	if !ok {
		return 0, false
	}
	n, err := strconv.ParseInt(s, 10, 64)
	return n, err == nil
}
