package ast

import (
	"strconv"
	"strings"

	"disjoint/api"
	"disjoint/spelling"
)

// The levels of expressions. An operand whose level is less than required stands in parentheses.
const (
	levelOr = 1 + iota
	levelAnd
	levelNot
	levelTest
	levelSum
	levelProduct
	levelNeg
	levelPrimary
)

// level returns the level of an expression with an operator.
func level(op int) int {
	switch op {
	case api.OpOr:
		return levelOr
	case api.OpAnd:
		return levelAnd
	case api.OpNot:
		return levelNot
	case api.OpEq, api.OpNe, api.OpLt, api.OpLe, api.OpGt, api.OpGe, api.OpLike, api.OpIsNull:
		return levelTest
	case api.OpAdd, api.OpSub:
		return levelSum
	case api.OpMul, api.OpDiv, api.OpMod:
		return levelProduct
	case api.OpNeg:
		return levelNeg
	}
	return levelPrimary
}

// symbol returns the text of a binary operator.
func symbol(op int) string {
	switch op {
	case api.OpOr:
		return "OR"
	case api.OpAnd:
		return "AND"
	case api.OpEq:
		return "="
	case api.OpNe:
		return "<>"
	case api.OpLt:
		return "<"
	case api.OpLe:
		return "<="
	case api.OpGt:
		return ">"
	case api.OpGe:
		return ">="
	case api.OpLike:
		return "LIKE"
	case api.OpAdd:
		return "+"
	case api.OpSub:
		return "-"
	case api.OpMul:
		return "*"
	case api.OpDiv:
		return "/"
	}
	return "%"
}

// text returns the text of a well-formed expression, in parentheses if its level is less than required.
func text(e api.Expr, required int) string {
	own := level(e.Op)
	s := plainText(e, own)
	if own < required {
		return "(" + s + ")"
	}
	return s
}

func plainText(e api.Expr, own int) string {
	switch e.Op {
	case api.OpLiteral:
		return literalText(e.Value)
	case api.OpColumn:
		if e.Table != "" {
			return e.Table + "." + e.Name
		}
		return e.Name
	case api.OpLength:
		return "LENGTH(" + text(e.Args[0], levelOr) + ")"
	case api.OpNeg:
		return "-" + text(e.Args[0], levelPrimary)
	case api.OpNot:
		return "NOT " + text(e.Args[0], levelNot)
	case api.OpIsNull:
		return text(e.Args[0], levelSum) + " IS NULL"
	}
	left := own
	if own == levelTest {
		left = levelSum
	}
	return text(e.Args[0], left) + " " + symbol(e.Op) + " " + text(e.Args[1], own+1)
}

func literalText(v api.Value) string {
	switch v.Kind {
	case api.Integer:
		return strconv.FormatInt(v.Int, 10)
	case api.Text:
		return spelling.Quote(v.Text)
	}
	return "NULL"
}

// list returns the texts of the elements of a list, separated by commas.
func list[T any](l []T, element func(T) string) string {
	var texts []string
	for _, x := range l {
		texts = append(texts, element(x))
	}
	return strings.Join(texts, ", ")
}

func anyText(e api.Expr) string { return text(e, levelOr) }

// statementText returns the text of a well-formed statement.
func statementText(s api.Statement) string {
	switch s.Kind {
	case api.StmtCreate:
		return "CREATE TABLE " + s.Table + " (" + definitionText(s.Create) + ")"
	case api.StmtInsert:
		return "INSERT INTO " + s.Table + " VALUES " + list(s.Values, tupleText)
	case api.StmtUpdate:
		return "UPDATE " + s.Table + " SET " + list(s.Sets, assignmentText) + whereText(s.Where)
	case api.StmtDelete:
		return "DELETE FROM " + s.Table + whereText(s.Where)
	case api.StmtSelect:
		return queryText(s)
	case api.StmtBegin:
		return "BEGIN"
	case api.StmtCommit:
		return "COMMIT"
	case api.StmtRollback:
		return "ROLLBACK"
	case api.StmtSavepoint:
		return "SAVEPOINT " + s.Name
	case api.StmtRollbackTo:
		return "ROLLBACK TO " + s.Name
	}
	return "RELEASE " + s.Name
}

func tupleText(l []api.Expr) string { return "(" + list(l, anyText) + ")" }

func assignmentText(a api.Assignment) string { return a.Column + " = " + anyText(a.Expr) }

func whereText(e api.Expr) string {
	if absent(e) {
		return ""
	}
	return " WHERE " + anyText(e)
}

func definitionText(d api.Definition) string {
	var l []string
	for _, c := range d.Columns {
		l = append(l, columnText(c))
	}
	for _, k := range d.Keys {
		l = append(l, "UNIQUE ("+strings.Join(k, ", ")+")")
	}
	for _, f := range d.Foreign {
		l = append(l, "FOREIGN KEY ("+strings.Join(f.Columns, ", ")+") REFERENCES "+f.Table+" ("+strings.Join(f.Target, ", ")+")")
	}
	for _, e := range d.Checks {
		l = append(l, "CHECK ("+anyText(e)+")")
	}
	return strings.Join(l, ", ")
}

func columnText(c api.Column) string {
	s := c.Name + " TEXT(" + strconv.Itoa(c.Max) + ")"
	if c.Type == api.Integer {
		s = c.Name + " INTEGER(" + strconv.FormatInt(c.Low, 10) + ", " + strconv.FormatInt(c.High, 10) + ")"
	}
	if c.NotNull {
		s += " NOT NULL"
	}
	return s
}

func queryText(s api.Statement) string {
	t := "SELECT *"
	if len(s.Items) > 0 {
		t = "SELECT " + list(s.Items, itemText)
	}
	t += " FROM " + list(s.From, sourceText) + whereText(s.Where)
	if len(s.Group) > 0 {
		t += " GROUP BY " + list(s.Group, anyText)
	}
	if len(s.Order) > 0 {
		t += " ORDER BY " + list(s.Order, orderText)
	}
	if s.Limit > 0 {
		t += " LIMIT " + strconv.Itoa(s.Limit)
	}
	return t
}

func itemText(i api.Item) string {
	switch i.Aggregate {
	case api.AggRows:
		return "COUNT(*)"
	case api.AggCount:
		return "COUNT(" + anyText(i.Expr) + ")"
	case api.AggSum:
		return "SUM(" + anyText(i.Expr) + ")"
	case api.AggMin:
		return "MIN(" + anyText(i.Expr) + ")"
	case api.AggMax:
		return "MAX(" + anyText(i.Expr) + ")"
	}
	return anyText(i.Expr)
}

func sourceText(f api.Source) string {
	if f.Alias != "" {
		return f.Table + " AS " + f.Alias
	}
	return f.Table
}

func orderText(o api.Order) string {
	if o.Descending {
		return strconv.Itoa(o.Item) + " DESC"
	}
	return strconv.Itoa(o.Item)
}
