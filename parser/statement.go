package parser

import (
	"slices"

	"disjoint/api"
	"disjoint/lexer"
)

func (p *parser) statement() (api.Statement, bool) {
	switch {
	case p.keyword("CREATE"):
		return p.create()
	case p.keyword("INSERT"):
		return p.insert()
	case p.keyword("UPDATE"):
		return p.update()
	case p.keyword("DELETE"):
		return p.delete()
	case p.keyword("SELECT"):
		return p.query()
	case p.keyword("BEGIN"):
		return api.Statement{Kind: api.StmtBegin}, true
	case p.keyword("COMMIT"):
		return api.Statement{Kind: api.StmtCommit}, true
	case p.keyword("ROLLBACK"):
		if !p.keyword("TO") {
			return api.Statement{Kind: api.StmtRollback}, true
		}
		return p.named(api.StmtRollbackTo)
	case p.keyword("SAVEPOINT"):
		return p.named(api.StmtSavepoint)
	case p.keyword("RELEASE"):
		return p.named(api.StmtRelease)
	}
	return api.Statement{}, false
}

func (p *parser) named(kind int) (api.Statement, bool) {
	name, ok := p.name()
	return api.Statement{Kind: kind, Name: name}, ok
}

// element is an element of a CREATE TABLE statement, of which one field is used.
type element struct {
	columns []api.Column
	keys    [][]string
	primary []string // the names of a primary key, which is among keys
	foreign []api.Reference
	checks  []api.Expr
}

func (p *parser) create() (api.Statement, bool) {
	s := api.Statement{Kind: api.StmtCreate}
	if !p.keyword("TABLE") {
		return s, false
	}
	var ok bool
	if s.Table, ok = p.name(); !ok {
		return s, false
	}
	l, ok := group(p, p.element)
	var primary []string
	d := &s.Create
	for _, x := range l {
		d.Columns = append(d.Columns, x.columns...)
		d.Keys = append(d.Keys, x.keys...)
		d.Foreign = append(d.Foreign, x.foreign...)
		d.Checks = append(d.Checks, x.checks...)
		primary = append(primary, x.primary...)
	}
	for i, c := range d.Columns {
		if slices.Contains(primary, c.Name) {
			d.Columns[i].NotNull = true
		}
	}
	return s, ok
}

func (p *parser) element() (element, bool) {
	switch {
	case p.keyword("PRIMARY"):
		if !p.keyword("KEY") {
			return element{}, false
		}
		l, ok := p.names()
		return element{keys: [][]string{l}, primary: l}, ok
	case p.keyword("UNIQUE"):
		l, ok := p.names()
		return element{keys: [][]string{l}}, ok
	case p.keyword("CHECK"):
		e, ok := p.enclosed()
		return element{checks: []api.Expr{e}}, ok
	case p.keyword("FOREIGN"):
		r, ok := p.reference()
		return element{foreign: []api.Reference{r}}, ok
	}
	c, ok := p.definition()
	return element{columns: []api.Column{c}}, ok
}

func (p *parser) names() ([]string, bool) { return group(p, p.name) }

func (p *parser) reference() (api.Reference, bool) {
	var r api.Reference
	if !p.keyword("KEY") {
		return r, false
	}
	var ok bool
	if r.Columns, ok = p.names(); !ok || !p.keyword("REFERENCES") {
		return r, false
	}
	if r.Table, ok = p.name(); !ok {
		return r, false
	}
	r.Target, ok = p.names()
	return r, ok
}

// definition parses the name and the type of a column.
func (p *parser) definition() (api.Column, bool) {
	name, ok := p.name()
	if !ok {
		return api.Column{}, false
	}
	c := api.Column{Name: name}
	switch {
	case p.keyword("INTEGER"):
		ok = p.bounds(&c)
	case p.keyword("TEXT"):
		ok = p.size(&c)
	default:
		return c, false
	}
	if ok && p.keyword("NOT") {
		c.NotNull = true
		ok = p.keyword("NULL")
	}
	return c, ok
}

func (p *parser) bounds(c *api.Column) bool {
	c.Type, c.Low, c.High = api.Integer, api.MinInteger, api.MaxInteger
	if !p.symbol("(") {
		return true
	}
	var ok bool
	if c.Low, ok = p.bound(); !ok || !p.symbol(",") {
		return false
	}
	c.High, ok = p.bound()
	return ok && p.symbol(")")
}

func (p *parser) bound() (int64, bool) {
	negative := p.symbol("-")
	n, ok := p.number()
	if negative {
		n = -n
	}
	return n, ok
}

func (p *parser) size(c *api.Column) bool {
	c.Type, c.Max = api.Text, api.MaxText
	if !p.symbol("(") {
		return true
	}
	n, ok := p.number()
	c.Max = int(n)
	return ok && p.symbol(")")
}

func (p *parser) insert() (api.Statement, bool) {
	s := api.Statement{Kind: api.StmtInsert}
	if !p.keyword("INTO") {
		return s, false
	}
	var ok bool
	if s.Table, ok = p.name(); !ok || !p.keyword("VALUES") {
		return s, false
	}
	s.Values, ok = list(p, p.tuple)
	return s, ok
}

func (p *parser) tuple() ([]api.Expr, bool) { return group(p, p.expr) }

func (p *parser) update() (api.Statement, bool) {
	s := api.Statement{Kind: api.StmtUpdate}
	var ok bool
	if s.Table, ok = p.name(); !ok || !p.keyword("SET") {
		return s, false
	}
	if s.Sets, ok = list(p, p.assignment); !ok {
		return s, false
	}
	s.Where, ok = p.where()
	return s, ok
}

func (p *parser) assignment() (api.Assignment, bool) {
	name, ok := p.name()
	if !ok || !p.symbol("=") {
		return api.Assignment{}, false
	}
	e, ok := p.expr()
	return api.Assignment{Column: name, Expr: e}, ok
}

// where parses a WHERE clause, if there is one.
func (p *parser) where() (api.Expr, bool) {
	if !p.keyword("WHERE") {
		return api.Expr{}, true
	}
	return p.expr()
}

func (p *parser) delete() (api.Statement, bool) {
	s := api.Statement{Kind: api.StmtDelete}
	if !p.keyword("FROM") {
		return s, false
	}
	var ok bool
	if s.Table, ok = p.name(); !ok {
		return s, false
	}
	s.Where, ok = p.where()
	return s, ok
}

func (p *parser) query() (api.Statement, bool) {
	s := api.Statement{Kind: api.StmtSelect}
	ok := p.symbol("*")
	if !ok {
		s.Items, ok = list(p, p.item)
	}
	if !ok || !p.keyword("FROM") || !p.from(&s) {
		return s, false
	}
	where, ok := p.where()
	s.Where = both(s.Where, where)
	if ok && p.keyword("GROUP") {
		ok = p.keyword("BY")
		if ok {
			s.Group, ok = list(p, p.column)
		}
	}
	if ok && p.keyword("ORDER") {
		ok = p.keyword("BY")
		if ok {
			s.Order, ok = list(p, p.order)
		}
	}
	if ok && p.keyword("LIMIT") {
		s.Limit, ok = p.positive()
	}
	return s, ok
}

// both returns the conjunction of two conditions, each of which may be absent.
func both(a, b api.Expr) api.Expr {
	switch {
	case a.Op == api.OpNone:
		return b
	case b.Op == api.OpNone:
		return a
	}
	return node(api.OpAnd, a, b)
}

// from parses the sources, and collects the conditions of ON clauses.
func (p *parser) from(s *api.Statement) bool {
	source, ok := p.source()
	for ok {
		s.From = append(s.From, source)
		join := p.keyword("JOIN")
		if !join && !p.symbol(",") {
			return true
		}
		source, ok = p.source()
		if ok && join {
			var on api.Expr
			if ok = p.keyword("ON"); ok {
				on, ok = p.expr()
			}
			s.Where = both(s.Where, on)
		}
	}
	return false
}

func (p *parser) source() (api.Source, bool) {
	table, ok := p.name()
	f := api.Source{Table: table}
	if ok && p.keyword("AS") {
		f.Alias, ok = p.name()
	}
	return f, ok
}

func (p *parser) item() (api.Item, bool) {
	aggregate := api.AggNone
	switch {
	case p.keyword("COUNT"):
		aggregate = api.AggCount
	case p.keyword("SUM"):
		aggregate = api.AggSum
	case p.keyword("MIN"):
		aggregate = api.AggMin
	case p.keyword("MAX"):
		aggregate = api.AggMax
	default:
		e, ok := p.expr()
		return api.Item{Expr: e}, ok
	}
	if !p.symbol("(") {
		return api.Item{}, false
	}
	if aggregate == api.AggCount && p.symbol("*") {
		return api.Item{Aggregate: api.AggRows}, p.symbol(")")
	}
	e, ok := p.expr()
	return api.Item{Aggregate: aggregate, Expr: e}, ok && p.symbol(")")
}

func (p *parser) order() (api.Order, bool) {
	n, ok := p.positive()
	o := api.Order{Item: n}
	if ok && !p.keyword("ASC") {
		o.Descending = p.keyword("DESC")
	}
	return o, ok
}

func (p *parser) positive() (int, bool) {
	if t := p.next(); t.Kind != lexer.Number || t.Text == "0" {
		return 0, false
	}
	n, ok := p.number()
	return int(n), ok
}
