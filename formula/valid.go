package formula

import (
	"disjoint/api"
	"disjoint/linear"
	"disjoint/value"
)

// Valid reports whether a formula is valid over variables.
func Valid(f api.Formula, l []api.Variable) bool {
	switch f.Kind {
	case api.FormulaAtom:
		return len(f.Args) == 0 && validAtom(f.Atom, l)
	case api.FormulaAnd, api.FormulaOr:
		if !zero(f.Atom) {
			return false
		}
		for _, g := range f.Args {
			if !Valid(g, l) {
				return false
			}
		}
		return true
	}
	return false
}

// zero reports whether all fields of an atom are zero.
func zero(a api.Atom) bool {
	return a.Kind == 0 && a.Var == 0 && a.Other == 0 && zeroTerm(a.Term) && a.Test == api.Test{}
}

func zeroTerm(t api.Term) bool { return t.Const == 0 && len(t.Parts) == 0 }

// validAtom examines the fields that the kind uses, and removes them; nothing must remain.
func validAtom(a api.Atom, l []api.Variable) bool {
	ok := false
	switch a.Kind {
	case api.AtomNull, api.AtomNotNull:
		ok = a.Var >= 0 && a.Var < len(l)
		a.Var = 0
	case api.AtomAtMost, api.AtomZero, api.AtomNonzero:
		ok = linear.Valid(a.Term) && typed(a.Term, l)
		a.Term = api.Term{}
	case api.AtomText:
		ok = hasType(l, a.Var, api.Text) && validTest(a.Test)
		a.Var, a.Test = 0, api.Test{}
	case api.AtomSame, api.AtomDifferent:
		ok = hasType(l, a.Var, api.Text) && hasType(l, a.Other, api.Text) && a.Var < a.Other
		a.Var, a.Other = 0, 0
	}
	a.Kind = 0
	return ok && zero(a)
}

func hasType(l []api.Variable, v, typ int) bool {
	return v >= 0 && v < len(l) && l[v].Type == typ
}

func validTest(t api.Test) bool {
	return t.Kind >= api.TestEqual && t.Kind <= api.TestAtMost && t.Var == 0 && value.Valid(value.Text(t.Text))
}

// typed reports whether the columns of a normal term are integers, and lengths are those of texts.
func typed(t api.Term, l []api.Variable) bool {
	for _, p := range t.Parts {
		ok := false
		switch p.Kind {
		case api.PartColumn:
			ok = hasType(l, p.Var, api.Integer)
		case api.PartLength:
			ok = hasType(l, p.Var, api.Text)
		case api.PartDiv:
			ok = typed(p.Of[0], l)
		}
		if !ok {
			return false
		}
	}
	return true
}
