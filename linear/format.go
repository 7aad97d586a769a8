package linear

import (
	"strconv"
	"strings"

	"disjoint/api"
)

// Format returns the text of a term.
func Format(t api.Term) string {
	var b strings.Builder
	for _, p := range t.Parts {
		sign(&b, p.Coef < 0)
		if n := magnitude(p.Coef); n != "1" {
			b.WriteString(n + "*")
		}
		b.WriteString(partText(p))
	}
	if t.Const != 0 || len(t.Parts) == 0 {
		sign(&b, t.Const < 0)
		b.WriteString(magnitude(t.Const))
	}
	return b.String()
}

// sign writes what precedes the next element of a sum.
func sign(b *strings.Builder, negative bool) {
	switch first := b.Len() == 0; {
	case first && negative:
		b.WriteString("-")
	case negative:
		b.WriteString(" - ")
	case !first:
		b.WriteString(" + ")
	}
}

func magnitude(n int64) string {
	return strings.TrimPrefix(strconv.FormatInt(n, 10), "-")
}

func partText(p api.Part) string {
	if p.Kind == api.PartDiv {
		return "div(" + Format(p.Of[0]) + ", " + strconv.FormatInt(p.By, 10) + ")"
	}
	x := "x" + strconv.Itoa(p.Var)
	if p.Kind == api.PartLength {
		return "length(" + x + ")"
	}
	return x
}
