package planner

import (
	"slices"

	"disjoint/api"
	"disjoint/plan"
)

const (
	maxRows     = 1000000
	maxEstimate = int64(1) << 40
)

// estimate is the estimated number of rows of a plan, and its cost.
type estimate struct {
	rows, cost int64
}

// Cost returns the estimated cost of a plan for the numbers of rows of the sources.
func Cost(s api.Schema, b api.Bound, p api.Plan, counts []int) int64 {
	return estimator{s, b, counts}.plan(p).cost
}

// estimator estimates plans of a statement.
type estimator struct {
	s      api.Schema
	b      api.Bound
	counts []int
}

func (x estimator) plan(p api.Plan) estimate {
	switch p.Kind {
	case api.PlanScan:
		n := x.count(p.Source)
		return estimate{n, n}
	case api.PlanLookup:
		return x.lookup(p)
	case api.PlanRange:
		return x.interval(p)
	case api.PlanFilter:
		a := x.plan(p.Args[0])
		rows := a.rows
		for range plan.Conjuncts(p.Filter) {
			rows = divide(rows, 2)
		}
		return estimate{rows, add(a.cost, a.rows)}
	}
	a, c := x.plan(p.Args[0]), x.plan(p.Args[1])
	return estimate{multiply(a.rows, c.rows), add(a.cost, multiply(a.rows, c.cost))}
}

// count returns the number of rows of a source.
func (x estimator) count(source int) int64 {
	if source >= len(x.counts) {
		return 0
	}
	return int64(min(max(x.counts[source], 0), maxRows))
}

func (x estimator) table(p api.Plan) api.Table { return x.s[x.b.Tables[p.Source]] }

func (x estimator) lookup(p api.Plan) estimate {
	covered := func(columns []int) bool { return contains(p.Columns, columns) }
	n := x.count(p.Source)
	rows := divide(n, 10)
	if slices.ContainsFunc(x.table(p).Keys, covered) {
		rows = min(n, 1)
	}
	if slices.ContainsFunc(indexes(x.table(p)), covered) {
		return estimate{rows, rows + 1}
	}
	return estimate{rows, n}
}

func (x estimator) interval(p api.Plan) estimate {
	n := x.count(p.Source)
	rows := divide(n, 3)
	if p.Keys[0].Op != api.OpNone && p.Keys[1].Op != api.OpNone {
		rows = divide(n, 5)
	}
	only := func(columns []int) bool { return slices.Equal(columns, p.Columns) }
	if slices.ContainsFunc(indexes(x.table(p)), only) {
		return estimate{rows, rows + 1}
	}
	return estimate{rows, n}
}

// indexes returns the columns of the keys and foreign keys of a table.
func indexes(t api.Table) [][]int {
	l := slices.Clone(t.Keys)
	for _, f := range t.Foreign {
		l = append(l, f.Columns)
	}
	return l
}

// contains reports whether all elements of a list are among those of another one.
func contains(l, elements []int) bool {
	return !slices.ContainsFunc(elements, func(e int) bool { return !slices.Contains(l, e) })
}

// divide returns the quotient, rounded up.
func divide(n, by int64) int64 { return (n + by - 1) / by }

func add(a, b int64) int64 { return min(a+b, maxEstimate) }

func multiply(a, b int64) int64 {
	if a > 0 && b > maxEstimate/a {
		return maxEstimate
	}
	return a * b
}
