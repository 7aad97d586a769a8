// Package tribool implements three-valued logic (layer 1): see shared/doc/01-tribool.md.
package tribool

import (
	"disjoint/api"
)

// words is indexed by truth value.
var words = [3]string{"FALSE", "TRUE", "UNKNOWN"}

// known returns a, or Unknown if a is not a truth value.
func known(a api.Truth) api.Truth {
	if a == api.False || a == api.True {
		return a
	}
	return api.Unknown
}

// And returns the lesser one of two truth values.
func And(a, b api.Truth) api.Truth {
	a, b = known(a), known(b)
	if a == api.False || b == api.False {
		return api.False
	}
	if a == api.True {
		return b
	}
	return a
}

// Or returns the greater one of two truth values.
func Or(a, b api.Truth) api.Truth {
	a, b = known(a), known(b)
	if a == api.True || b == api.True {
		return api.True
	}
	if a == api.False {
		return b
	}
	return a
}

// Not returns the negation.
func Not(a api.Truth) api.Truth {
	switch known(a) {
	case api.False:
		return api.True
	case api.True:
		return api.False
	}
	return api.Unknown
}

// All returns the least of the truth values, True if there are none.
func All(l ...api.Truth) api.Truth {
	r := api.True
	for _, a := range l {
		r = And(r, a)
	}
	return r
}

// Any returns the greatest of the truth values, False if there are none.
func Any(l ...api.Truth) api.Truth {
	r := api.False
	for _, a := range l {
		r = Or(r, a)
	}
	return r
}

// Of returns True or False.
func Of(b bool) api.Truth {
	if b {
		return api.True
	}
	return api.False
}

// Format returns the name of a truth value.
func Format(a api.Truth) string {
	return words[known(a)]
}

// Parse returns the truth value with a name.
func Parse(s string) (api.Truth, api.Errno) {
	for i, w := range words {
		if w == s {
			return api.Truth(i), api.OK
		}
	}
	return api.False, api.ErrSyntax
}
