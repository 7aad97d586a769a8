package plan

import (
	"strings"

	"disjoint/api"
	"disjoint/ast"
)

// Format returns the text of a plan.
func Format(s api.Schema, b api.Bound, p api.Plan) string {
	x := shape{s, b}
	switch p.Kind {
	case api.PlanScan:
		return "SCAN " + x.name(p.Source)
	case api.PlanLookup:
		var l []string
		for i, c := range p.Columns {
			l = append(l, x.condition(p, c, " = ", p.Keys[i]))
		}
		return "LOOKUP " + x.name(p.Source) + " (" + strings.Join(l, ", ") + ")"
	case api.PlanRange:
		var l []string
		for i, k := range p.Keys {
			if !absent(k) {
				l = append(l, x.condition(p, p.Columns[0], []string{" >= ", " <= "}[i], k))
			}
		}
		return "RANGE " + x.name(p.Source) + " (" + strings.Join(l, ", ") + ")"
	case api.PlanFilter:
		return "FILTER (" + Format(s, b, p.Args[0]) + ") BY " + exprText(p.Filter)
	case api.PlanJoin:
		return "JOIN (" + Format(s, b, p.Args[0]) + ") (" + Format(s, b, p.Args[1]) + ")"
	}
	return ""
}

// name returns the alias of a source, or the name of its table.
func (x shape) name(source int) string {
	if source < len(x.b.Statement.From) {
		if alias := x.b.Statement.From[source].Alias; alias != "" {
			return alias
		}
	}
	return x.s[x.b.Tables[source]].Name
}

func (x shape) condition(p api.Plan, column int, operator string, key api.Expr) string {
	return x.s[x.b.Tables[p.Source]].Columns[column].Name + operator + exprText(key)
}

func exprText(e api.Expr) string {
	text, _ := ast.FormatExpr(e)
	return text
}
