package waitgraph

import (
	"math/rand"
	"slices"
	"testing"
)

func build(edges ...[2]int) *Graph[int] {
	g := New[int]()
	for _, e := range edges {
		g.Add(e[0], e[1])
	}
	return g
}

func TestExample(t *testing.T) {
	g := build([2]int{1, 2}, [2]int{2, 3}, [2]int{3, 1}, [2]int{2, 4}, [2]int{4, 1})
	if c := g.Cycle(1); !slices.Equal(c, []int{1, 2, 3}) {
		t.Errorf("Cycle(1) = %v", c)
	}
	if c := g.Cycle(4); !slices.Equal(c, []int{4, 1, 2}) {
		t.Errorf("Cycle(4) = %v", c)
	}
	g.Remove(3)
	if c := g.Cycle(1); !slices.Equal(c, []int{1, 2, 4}) {
		t.Errorf("Cycle(1) = %v", c)
	}
	g.Leave(2)
	if c := g.Cycle(1); c != nil {
		t.Errorf("Cycle(1) = %v", c)
	}
	if !slices.Equal(g.Nodes(), []int{1, 2, 4}) {
		t.Errorf("Nodes = %v", g.Nodes())
	}
}

// naiveCycle tries all cycles.
func naiveCycle(edges map[[2]int]bool, n, nodes int) []int {
	var best []int
	var try func(path []int)
	try = func(path []int) {
		last := path[len(path)-1]
		if edges[[2]int{last, n}] && (best == nil || len(path) < len(best) || len(path) == len(best) && slices.Compare(path, best) < 0) {
			best = slices.Clone(path)
		}
		for next := range nodes {
			if edges[[2]int{last, next}] && !slices.Contains(path, next) {
				try(append(path, next))
			}
		}
	}
	try([]int{n})
	return best
}

func naiveReaches(edges map[[2]int]bool, nodes int) [][]bool {
	r := make([][]bool, nodes)
	for i := range r {
		r[i] = make([]bool, nodes)
		for j := range nodes {
			r[i][j] = edges[[2]int{i, j}]
		}
	}
	for k := range nodes {
		for i := range nodes {
			for j := range nodes {
				r[i][j] = r[i][j] || r[i][k] && r[k][j]
			}
		}
	}
	return r
}

func check(t *testing.T, g *Graph[int], edges map[[2]int]bool, nodes int) {
	t.Helper()
	var want []int
	reaches := naiveReaches(edges, nodes)
	for i := range nodes {
		var successors []int
		used := false
		for j := range nodes {
			if edges[[2]int{i, j}] {
				successors = append(successors, j)
			}
			used = used || edges[[2]int{i, j}] || edges[[2]int{j, i}]
			if g.Reaches(i, j) != reaches[i][j] {
				t.Fatalf("Reaches(%d, %d) for %v", i, j, edges)
			}
		}
		if used {
			want = append(want, i)
		}
		if got := slices.Collect(g.Successors(i)); !slices.Equal(got, successors) {
			t.Fatalf("Successors(%d) = %v for %v", i, got, edges)
		}
		if got, want := g.Cycle(i), naiveCycle(edges, i, nodes); !slices.Equal(got, want) || (got != nil) != reaches[i][i] {
			t.Fatalf("Cycle(%d) = %v, want %v, for %v", i, got, want, edges)
		}
	}
	if !slices.Equal(g.Nodes(), want) {
		t.Fatalf("Nodes = %v, want %v", g.Nodes(), want)
	}
}

func TestRandom(t *testing.T) {
	r := rand.New(rand.NewSource(63))
	const nodes = 6
	for range 200 {
		g := New[int]()
		edges := map[[2]int]bool{}
		for range 30 {
			a, b := r.Intn(nodes), r.Intn(nodes)
			switch r.Intn(8) {
			case 0:
				g.Remove(a)
				for e := range edges {
					if e[0] == a || e[1] == a {
						delete(edges, e)
					}
				}
			case 1:
				g.Leave(a)
				for e := range edges {
					if e[0] == a {
						delete(edges, e)
					}
				}
			default:
				if g.Add(a, b) != !edges[[2]int{a, b}] {
					t.Fatalf("Add(%d, %d)", a, b)
				}
				edges[[2]int{a, b}] = true
			}
			check(t, g, edges, nodes)
		}
	}
}

// The cycles are gone after one node of each cycle that is found was removed.
func TestRemovingCycles(t *testing.T) {
	r := rand.New(rand.NewSource(64))
	for range 100 {
		g := New[int]()
		for range 40 {
			g.Add(r.Intn(12), r.Intn(12))
		}
		removals := 0
		for {
			i := slices.IndexFunc(g.Nodes(), func(n int) bool { return g.Cycle(n) != nil })
			if i < 0 {
				break
			}
			c := g.Cycle(g.Nodes()[i])
			g.Remove(slices.Max(c))
			removals++
		}
		if removals > 12 || slices.ContainsFunc(g.Nodes(), func(n int) bool { return g.Reaches(n, n) }) {
			t.Fatalf("after %d removals a cycle is left", removals)
		}
	}
}

func TestSuccessors(t *testing.T) {
	g := build([2]int{1, 5}, [2]int{1, 2}, [2]int{1, 9}, [2]int{1, 1})
	s := g.Successors(1)
	g.Add(1, 3)
	g.Remove(5)
	for range 2 {
		if l := slices.Collect(s); !slices.Equal(l, []int{1, 2, 5, 9}) {
			t.Errorf("Successors = %v", l)
		}
	}
	n := 0
	for range s {
		n++
		if n == 2 {
			break
		}
	}
	if n != 2 {
		t.Errorf("the iterator yields %d nodes", n)
	}
	for x := range g.Successors(1) {
		g.Leave(1)
		g.Add(x, 7)
	}
	if l := slices.Collect(g.Successors(77)); l != nil {
		t.Errorf("Successors of no node = %v", l)
	}
	g.Nodes()[0] = 99
	if slices.Contains(g.Nodes(), 99) {
		t.Error("Nodes shares memory with the graph")
	}
}

func TestLoopsAndTypes(t *testing.T) {
	g := New[string]()
	if !g.Add("b", "b") || g.Add("b", "b") || !slices.Equal(g.Cycle("b"), []string{"b"}) || !g.Reaches("b", "b") || g.Cycle("a") != nil {
		t.Error("an edge from a node to itself")
	}
	g.Add("b", "a")
	g.Add("a", "b")
	if !slices.Equal(g.Cycle("a"), []string{"a", "b"}) || !slices.Equal(g.Cycle("b"), []string{"b"}) || !slices.Equal(g.Nodes(), []string{"a", "b"}) {
		t.Error("two cycles")
	}
	f := New[float64]()
	f.Add(0.5, -1)
	f.Add(-1, 0.5)
	if !slices.Equal(f.Cycle(-1), []float64{-1, 0.5}) {
		t.Errorf("Cycle = %v", f.Cycle(-1))
	}
}
