package automaton

import "slices"

// table contains the transitions of an automaton for ranges of characters that all edges treat alike. It has a further state, dead, to which all characters lead that have no edge.
type table struct {
	cuts []byte  // the first character of each range
	to   [][]int // for each range, the successor of each state
	dead int
}

// minimal returns the minimal automaton. It is the same one for all equivalent automata: its states are numbered in the order in which they are found from the initial one.
func minimal(d DFA) DFA {
	useful := productive(d)
	if !useful[0] {
		return DFA{Accept: []bool{false}, Edges: [][]Edge{nil}}
	}
	t := transitions(d, useful)
	p := refine(t, d.Accept)
	r := DFA{}
	numbers := map[int]int{p.block[0]: 0}
	states := []int{0}
	for i := 0; i < len(states); i++ {
		s := states[i]
		r.Accept = append(r.Accept, d.Accept[s])
		var edges []Edge
		for c := range t.cuts {
			to := t.to[c][s]
			if to == t.dead {
				continue
			}
			number, known := numbers[p.block[to]]
			if !known {
				number = len(states)
				numbers[p.block[to]] = number
				states = append(states, to)
			}
			edges = extend(edges, Edge{t.cuts[c], t.last(c), number})
		}
		r.Edges = append(r.Edges, edges)
	}
	return r
}

// last returns the last character of a range.
func (t table) last(c int) byte {
	if c+1 < len(t.cuts) {
		return t.cuts[c+1] - 1
	}
	return greatest
}

// extend appends an edge to a list, or makes the last edge longer.
func extend(l []Edge, e Edge) []Edge {
	if n := len(l); n > 0 && l[n-1].To == e.To && l[n-1].High+1 == e.Low {
		l[n-1].High = e.High
		return l
	}
	return append(l, e)
}

// productive reports for each state whether some text leads from it to acceptance.
func productive(d DFA) []bool {
	before := make([][]int, len(d.Accept))
	var work []int
	useful := slices.Clone(d.Accept)
	for s, l := range d.Edges {
		for _, e := range l {
			before[e.To] = append(before[e.To], s)
		}
		if useful[s] {
			work = append(work, s)
		}
	}
	for len(work) > 0 {
		s := work[len(work)-1]
		work = work[:len(work)-1]
		for _, b := range before[s] {
			if !useful[b] {
				useful[b] = true
				work = append(work, b)
			}
		}
	}
	return useful
}

// transitions returns the table of an automaton, in which states that are not useful are dead.
func transitions(d DFA, useful []bool) table {
	first := make([]bool, greatest+2)
	first[least] = true
	for _, l := range d.Edges {
		for _, e := range l {
			first[e.Low], first[e.High+1] = true, true
		}
	}
	t := table{dead: len(d.Accept)}
	for c := byte(least); c <= greatest; c++ {
		if !first[c] {
			continue
		}
		to := make([]int, len(d.Accept)+1)
		for s := range to {
			to[s] = t.dead
			if s < t.dead && useful[s] {
				if next := d.step(s, c); next >= 0 && useful[next] {
					to[s] = next
				}
			}
		}
		t.cuts = append(t.cuts, c)
		t.to = append(t.to, to)
	}
	return t
}

// partition divides states into blocks, each of which is a part of elements.
type partition struct {
	elements []int
	location []int // of each state in elements
	block    []int // of each state
	first    []int // of each block
	end      []int
	marked   []int // how many states at the beginning of each block are marked
	touched  []int // the blocks with marked states
}

// refine returns the partition of states into those that accept the same texts (by Hopcroft's algorithm).
func refine(t table, accept []bool) *partition {
	n := t.dead + 1
	p := &partition{first: []int{0}, end: []int{n}, marked: []int{0}, block: make([]int, n)}
	for s := range n {
		p.elements = append(p.elements, s)
		p.location = append(p.location, s)
	}
	for s, a := range accept {
		if a {
			p.mark(s)
		}
	}
	p.split()
	before := make([][][]int, len(t.cuts))
	for c, to := range t.to {
		before[c] = make([][]int, n)
		for s, next := range to {
			before[c][next] = append(before[c][next], s)
		}
	}
	// All blocks are work, as soon as they exist; splitting makes the smaller part a new block.
	for b := 0; b < len(p.first); b++ {
		members := slices.Clone(p.elements[p.first[b]:p.end[b]])
		for c := range t.cuts {
			for _, s := range members {
				for _, x := range before[c][s] {
					p.mark(x)
				}
			}
			p.split()
		}
	}
	return p
}

// mark marks a state.
func (p *partition) mark(s int) {
	b := p.block[s]
	i, j := p.location[s], p.first[b]+p.marked[b]
	if i < j {
		return
	}
	if p.marked[b] == 0 {
		p.touched = append(p.touched, b)
	}
	other := p.elements[j]
	p.elements[i], p.elements[j] = other, s
	p.location[other], p.location[s] = i, j
	p.marked[b]++
}

// split separates the marked states of each block from the others; the smaller part becomes a new block.
func (p *partition) split() {
	for _, b := range p.touched {
		middle := p.first[b] + p.marked[b]
		p.marked[b] = 0
		if middle == p.end[b] {
			continue
		}
		first, end := middle, p.end[b]
		if middle-p.first[b] <= end-middle {
			first, end = p.first[b], middle
			p.first[b] = middle
		} else {
			p.end[b] = middle
		}
		for _, s := range p.elements[first:end] {
			p.block[s] = len(p.first)
		}
		p.first = append(p.first, first)
		p.end = append(p.end, end)
		p.marked = append(p.marked, 0)
	}
	p.touched = nil
}
