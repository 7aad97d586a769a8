package pattern

import "disjoint/api"

// state is what a test needs to know of the beginning of a text. For LIKE it is the set of the positions of the pattern to which it leads, as bits. For the other tests it is the number of characters that are those of the test's text, or less or greater.
type state uint32

const (
	less state = api.MaxText + 1 + iota
	greater
)

// settled is the state of a test that all texts pass.
const settled state = 1 << 31

// machine reads texts for a test.
type machine struct {
	test   api.Test
	need   []int  // for each position, the number of characters that the rest of the pattern needs
	longer []bool // whether what follows can have more characters
	free   []bool // whether they can be any characters
}

func newMachine(t api.Test) machine {
	m := machine{test: t}
	if t.Kind != api.TestLike {
		return m
	}
	p := t.Text
	m.need, m.longer, m.free = make([]int, len(p)+1), make([]bool, len(p)+1), make([]bool, len(p)+1)
	for i := len(p); i >= 0; i-- {
		m.free[i] = true
		if i < len(p) {
			m.need[i], m.longer[i], m.free[i] = m.need[i+1], m.longer[i+1], m.free[i+1]
			if p[i] != '%' {
				m.need[i]++
				m.free[i] = m.free[i] && p[i] == '_'
			}
		}
		m.longer[i] = m.longer[i] || m.loops(i)
	}
	return m
}

// loops reports whether position i stands behind a %, to which further characters can belong.
func (m *machine) loops(i int) bool { return i > 0 && m.test.Text[i-1] == '%' }

func (m *machine) start() state {
	if m.test.Kind == api.TestLike {
		return m.closure(1)
	}
	return 0
}

// closure adds the positions behind % to a set of positions.
func (m *machine) closure(s state) state {
	for i := range len(m.test.Text) {
		if s&(1<<i) != 0 && m.test.Text[i] == '%' {
			s |= 1 << (i + 1)
		}
	}
	return s
}

// step returns the state after a further character.
func (m *machine) step(s state, c byte) state {
	p := m.test.Text
	if m.test.Kind == api.TestLike {
		var r state
		for i := range len(p) + 1 {
			if s&(1<<i) == 0 {
				continue
			}
			if m.loops(i) {
				r |= 1 << i
			}
			if i < len(p) && p[i] != '%' && (p[i] == '_' || p[i] == c) {
				r |= 1 << (i + 1)
			}
		}
		return m.closure(r)
	}
	switch {
	case s >= less:
		return s
	case int(s) == len(p) || c > p[s]:
		return greater
	case c < p[s]:
		return less
	}
	return s + 1
}

// verdict is what is known of the texts that lead to a state.
type verdict int

const (
	open verdict = iota
	allPass
	nonePass
)

func known(passes bool) verdict {
	if passes {
		return allPass
	}
	return nonePass
}

// judge returns what is known of the texts that lead to a state and have left more characters, and the state without what makes no difference to them.
func (m *machine) judge(s state, left int) (state, verdict) {
	v := open
	if m.test.Kind == api.TestLike {
		s, v = m.judgeLike(s, left)
	} else {
		v = m.judgeOrder(s, left)
	}
	if m.test.Negated && v != open {
		v = known(v == nonePass)
	}
	return s, v
}

func (m *machine) judgeLike(s state, left int) (state, verdict) {
	var live state
	for i := range len(m.test.Text) + 1 {
		if s&(1<<i) == 0 || m.need[i] > left || m.need[i] < left && !m.longer[i] {
			continue
		}
		if m.free[i] {
			return s, allPass
		}
		live |= 1 << i
	}
	if live == 0 {
		return live, nonePass
	}
	return live, open
}

func (m *machine) judgeOrder(s state, left int) verdict {
	if s >= less {
		return known(s == less && m.test.Kind != api.TestEqual)
	}
	rest := len(m.test.Text) - int(s)
	switch {
	case left == 0 && rest == 0:
		return known(m.test.Kind != api.TestLess)
	case left == 0:
		return known(m.test.Kind != api.TestEqual)
	case rest == 0 || m.test.Kind == api.TestEqual && rest != left:
		return nonePass
	}
	return open
}

// accepts reports whether the texts that lead to a state pass the test.
func (m *machine) accepts(s state) bool {
	_, v := m.judge(s, 0)
	return v == allPass
}

// wanted adds to counts, for each character, how often it must occur in the rest of a text, unless that is less than what counts contains.
func (m *machine) wanted(s state, counts *[lastCharacter + 1]int) {
	if s == settled || m.test.Kind != api.TestLike || m.test.Negated {
		return
	}
	// What follows the last position belongs to what follows all positions.
	p := m.test.Text
	last := len(p)
	for last > 0 && s&(1<<last) == 0 {
		last--
	}
	var own [lastCharacter + 1]int
	for _, c := range []byte(p[last:]) {
		if c != '%' && c != '_' {
			own[c]++
			counts[c] = max(counts[c], own[c])
		}
	}
}
