package textsolver

import "slices"

// chooser chooses a word for each class, such that classes that have to be different have different words.
type chooser struct {
	different [][]bool
	names     []string // the words, by number
	numbers   map[string]int
	domains   [][]int // the numbers of the words of each class
}

func newChooser(classes int) *chooser {
	c := &chooser{numbers: map[string]int{}, domains: make([][]int, classes)}
	for range classes {
		c.different = append(c.different, make([]bool, classes))
	}
	return c
}

// degree returns the number of classes that have to differ from class k.
func (c *chooser) degree(k int) int {
	n := 0
	for _, d := range c.different[k] {
		if d {
			n++
		}
	}
	return n
}

// add sets the words of class k, and reports whether there are any.
func (c *chooser) add(k int, words []string) bool {
	for _, w := range words {
		number, known := c.numbers[w]
		if !known {
			number = len(c.names)
			c.numbers[w] = number
			c.names = append(c.names, w)
		}
		c.domains[k] = append(c.domains[k], number)
	}
	return len(words) > 0
}

// choose returns a word for each class, if this is possible.
func (c *chooser) choose() ([]string, bool) {
	var all []int
	for k := range c.domains {
		all = append(all, k)
	}
	chosen := make([]int, len(all))
	if !c.search(all, c.domains, chosen) {
		return nil, false
	}
	words := make([]string, len(all))
	for k, w := range chosen {
		words[k] = c.names[w]
	}
	return words, true
}

// conflict reports whether two classes have to be different, and could have the same word.
func (c *chooser) conflict(a, b int, domains [][]int) bool {
	return c.different[a][b] && slices.ContainsFunc(domains[a], func(w int) bool { return slices.Contains(domains[b], w) })
}

// neighbours returns those of some classes that are in conflict with class k.
func (c *chooser) neighbours(k int, classes []int, domains [][]int) []int {
	var l []int
	for _, x := range classes {
		if c.conflict(k, x, domains) {
			l = append(l, x)
		}
	}
	return l
}

// search chooses words for some classes.
func (c *chooser) search(classes []int, domains [][]int, chosen []int) bool {
	rest, later := c.reduce(classes, domains)
	for len(rest) > 0 {
		var part []int
		part, rest = c.component(rest, domains)
		if !c.searchComponent(part, domains, chosen) {
			return false
		}
	}
	for _, x := range slices.Backward(later) {
		// The classes that were put aside after x have words already, as have all others.
		i := slices.IndexFunc(domains[x.class], func(w int) bool {
			return !slices.ContainsFunc(x.neighbours, func(k int) bool { return chosen[k] == w })
		})
		chosen[x.class] = domains[x.class][i]
	}
	return true
}

// aside is a class that has more words than neighbours, so that one is left whatever they choose.
type aside struct {
	class      int
	neighbours []int
}

// reduce puts classes aside, one after the other, and returns those that remain.
func (c *chooser) reduce(classes []int, domains [][]int) ([]int, []aside) {
	rest := slices.Clone(classes)
	var later []aside
	for again := true; again; {
		again = false
		for _, k := range slices.Clone(rest) {
			l := c.neighbours(k, rest, domains)
			if len(domains[k]) > len(l) {
				later = append(later, aside{k, l})
				rest = slices.DeleteFunc(rest, func(x int) bool { return x == k })
				again = true
			}
		}
	}
	return rest, later
}

// component returns the classes that are connected with the first one by conflicts, and the others.
func (c *chooser) component(classes []int, domains [][]int) ([]int, []int) {
	part, rest := []int{classes[0]}, slices.Clone(classes[1:])
	for i := 0; i < len(part); i++ {
		l := c.neighbours(part[i], rest, domains)
		part = append(part, l...)
		rest = slices.DeleteFunc(rest, func(k int) bool { return slices.Contains(l, k) })
	}
	return part, rest
}

// searchComponent chooses words for connected classes.
func (c *chooser) searchComponent(classes []int, domains [][]int, chosen []int) bool {
	clique := c.clique(classes, domains)
	if !match(clique, domains, chosen) {
		return false
	}
	if len(clique) == len(classes) {
		return true
	}
	k := slices.MinFunc(classes, func(a, b int) int { return len(domains[a]) - len(domains[b]) })
	others := slices.DeleteFunc(slices.Clone(classes), func(x int) bool { return x == k })
	var failed []string
	for _, w := range domains[k] {
		// Words that the same classes can choose are interchangeable.
		owners := owners(w, classes, domains)
		if slices.Contains(failed, owners) {
			continue
		}
		failed = append(failed, owners)
		chosen[k] = w
		if c.search(others, c.without(w, k, domains), chosen) {
			return true
		}
	}
	return false
}

// owners returns a string that is the same for words that the same classes can choose.
func owners(w int, classes []int, domains [][]int) string {
	b := make([]byte, len(classes))
	for i, k := range classes {
		if slices.Contains(domains[k], w) {
			b[i] = 1
		}
	}
	return string(b)
}

// without returns the words of all classes, if class k chooses w.
func (c *chooser) without(w, k int, domains [][]int) [][]int {
	l := slices.Clone(domains)
	for x, d := range domains {
		if c.different[k][x] && slices.Contains(d, w) {
			l[x] = slices.DeleteFunc(slices.Clone(d), func(y int) bool { return y == w })
		}
	}
	return l
}

// clique returns classes each two of which are in conflict, among them the one with the most neighbours.
func (c *chooser) clique(classes []int, domains [][]int) []int {
	degree := make([]int, len(domains))
	for _, k := range classes {
		degree[k] = len(c.neighbours(k, classes, domains))
	}
	order := slices.Clone(classes)
	slices.SortStableFunc(order, func(a, b int) int { return degree[b] - degree[a] })
	var l []int
	for _, k := range order {
		if len(c.neighbours(k, l, domains)) == len(l) {
			l = append(l, k)
		}
	}
	return l
}

// match chooses different words for all of some classes, if this is possible.
func match(classes []int, domains [][]int, chosen []int) bool {
	owner := map[int]int{}
	for _, k := range classes {
		if !augment(k, domains, owner, map[int]bool{}) {
			return false
		}
	}
	for w, k := range owner {
		chosen[k] = w
	}
	return true
}

// augment finds a word for class k, for which other classes can give up theirs for another one.
func augment(k int, domains [][]int, owner map[int]int, tried map[int]bool) bool {
	for _, w := range domains[k] {
		if tried[w] {
			continue
		}
		tried[w] = true
		other, taken := owner[w]
		if !taken || augment(other, domains, owner, tried) {
			owner[w] = k
			return true
		}
	}
	return false
}
