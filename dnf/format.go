package dnf

import (
	"strconv"
	"strings"

	"disjoint/api"
	"disjoint/formula"
	"disjoint/linear"
)

// Format returns the text of a clause over n variables.
func Format(c api.Clause, n int) string {
	var l []string
	for _, v := range c.Null {
		l = append(l, name(v)+" IS NULL")
	}
	for _, v := range c.NotNull {
		l = append(l, name(v)+" IS NOT NULL")
	}
	for i, a := range c.Auxiliary {
		l = append(l, name(n+i)+" = "+definition(a))
	}
	for _, x := range c.Ints {
		relation := " <= 0"
		if x.Equal {
			relation = " = 0"
		}
		l = append(l, form(x.Linear)+relation)
	}
	for _, t := range c.Tests {
		l = append(l, formula.Format(testFormula(t)))
	}
	for _, p := range c.Same {
		l = append(l, name(p[0])+" = "+name(p[1]))
	}
	for _, p := range c.Different {
		l = append(l, name(p[0])+" <> "+name(p[1]))
	}
	if len(l) == 0 {
		return "TRUE"
	}
	return strings.Join(l, " AND ")
}

func name(v int) string { return "x" + strconv.Itoa(v) }

func definition(a api.Auxiliary) string {
	if a.By == 0 {
		return "length(" + name(a.Text) + ")"
	}
	return "div(" + form(a.Of) + ", " + strconv.FormatInt(a.By, 10) + ")"
}

// form returns the text of a linear form, which is that of a term of layer 13.
func form(f api.Linear) string {
	t := api.Term{Const: f.Const}
	for _, c := range f.Coefs {
		t.Parts = append(t.Parts, api.Part{Coef: c.N, Var: c.Var})
	}
	return linear.Format(t)
}
