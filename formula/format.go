package formula

import (
	"strconv"
	"strings"

	"disjoint/api"
	"disjoint/linear"
	"disjoint/value"
)

// Format returns the text of a formula.
func Format(f api.Formula) string {
	switch f.Kind {
	case api.FormulaAnd:
		return list(f.Args, " AND ", "TRUE")
	case api.FormulaOr:
		return list(f.Args, " OR ", "FALSE")
	}
	return atomText(f.Atom)
}

func list(l []api.Formula, separator, none string) string {
	if len(l) == 0 {
		return none
	}
	var texts []string
	for _, f := range l {
		texts = append(texts, Format(f))
	}
	return "(" + strings.Join(texts, separator) + ")"
}

func name(v int) string { return "x" + strconv.Itoa(v) }

func atomText(a api.Atom) string {
	switch a.Kind {
	case api.AtomNull:
		return name(a.Var) + " IS NULL"
	case api.AtomNotNull:
		return name(a.Var) + " IS NOT NULL"
	case api.AtomAtMost:
		return linear.Format(a.Term) + " <= 0"
	case api.AtomZero:
		return linear.Format(a.Term) + " = 0"
	case api.AtomNonzero:
		return linear.Format(a.Term) + " <> 0"
	case api.AtomSame:
		return name(a.Var) + " = " + name(a.Other)
	case api.AtomDifferent:
		return name(a.Var) + " <> " + name(a.Other)
	}
	return name(a.Var) + " " + testText(a.Test) + " " + value.Format(value.Text(a.Test.Text))
}

func testText(t api.Test) string {
	switch {
	case t.Kind == api.TestEqual && t.Negated:
		return "<>"
	case t.Kind == api.TestEqual:
		return "="
	case t.Kind == api.TestLike && t.Negated:
		return "NOT LIKE"
	case t.Kind == api.TestLike:
		return "LIKE"
	case t.Kind == api.TestLess && t.Negated:
		return ">="
	case t.Kind == api.TestLess:
		return "<"
	case t.Negated:
		return ">"
	}
	return "<="
}
