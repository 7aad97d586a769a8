package btree

import (
	"cmp"
	"slices"
)

// node is never changed after it was made: changes of a tree make new nodes, so that an iterator can go on with the old ones.
type node[K cmp.Ordered, V any] struct {
	keys     []K
	values   []V
	children []*node[K, V] // none in a leaf
}

// split is the part of a node that was too large: a key, its value, and a node with all greater keys.
type split[K cmp.Ordered, V any] struct {
	key   K
	value V
	node  *node[K, V]
}

func (n *node[K, V]) leaf() bool { return len(n.children) == 0 }

// find returns the position of the first key that is not less than k, and whether it is equal.
func (n *node[K, V]) find(k K) (int, bool) {
	return slices.BinarySearchFunc(n.keys, k, cmp.Compare[K])
}

func (n *node[K, V]) copy() *node[K, V] {
	return &node[K, V]{slices.Clone(n.keys), slices.Clone(n.values), slices.Clone(n.children)}
}

// put returns n with a key, and the part that is split off if it would have too many keys.
func (n *node[K, V]) put(k K, v V, order int) (*node[K, V], *split[K, V]) {
	m := n.copy()
	i, found := n.find(k)
	switch {
	case found:
		m.values[i] = v
	case n.leaf():
		m.insert(i, k, v)
	default:
		child, right := n.children[i].put(k, v, order)
		m.children[i] = child
		if right != nil {
			m.insert(i, right.key, right.value)
			m.children = slices.Insert(m.children, i+1, right.node)
		}
	}
	if len(m.keys) < order {
		return m, nil
	}
	return m.split()
}

func (n *node[K, V]) insert(i int, k K, v V) {
	n.keys = slices.Insert(n.keys, i, k)
	n.values = slices.Insert(n.values, i, v)
}

// split returns the lesser keys of n, and the rest.
func (n *node[K, V]) split() (*node[K, V], *split[K, V]) {
	h := len(n.keys) / 2
	left := &node[K, V]{keys: n.keys[:h], values: n.values[:h]}
	right := &node[K, V]{keys: n.keys[h+1:], values: n.values[h+1:]}
	if !n.leaf() {
		left.children = n.children[:h+1]
		right.children = n.children[h+1:]
	}
	return left.copy(), &split[K, V]{n.keys[h], n.values[h], right.copy()}
}

// without returns n without k, which it contains; the result itself can have one key less than least.
func (n *node[K, V]) without(k K, least int) *node[K, V] {
	m := n.copy()
	i, found := n.find(k)
	switch {
	case n.leaf():
		m.remove(i)
		return m
	case found:
		before := n.children[i].last()
		m.keys[i], m.values[i] = before.key, before.value
		m.children[i] = n.children[i].without(before.key, least)
	default:
		m.children[i] = n.children[i].without(k, least)
	}
	m.fill(i, least)
	return m
}

func (n *node[K, V]) remove(i int) {
	n.keys = slices.Delete(n.keys, i, i+1)
	n.values = slices.Delete(n.values, i, i+1)
}

// last returns the greatest key below n.
func (n *node[K, V]) last() split[K, V] {
	for !n.leaf() {
		n = n.children[len(n.children)-1]
	}
	i := len(n.keys) - 1
	return split[K, V]{key: n.keys[i], value: n.values[i]}
}

// fill makes sure that child i of n, which is new, has enough keys.
func (n *node[K, V]) fill(i, least int) {
	switch {
	case len(n.children[i].keys) >= least:
	case i > 0 && len(n.children[i-1].keys) > least:
		n.fromLeft(i)
	case i+1 < len(n.children) && len(n.children[i+1].keys) > least:
		n.fromRight(i)
	case i > 0:
		n.merge(i - 1)
	default:
		n.merge(i)
	}
}

// fromLeft moves a key from child i - 1 to child i.
func (n *node[K, V]) fromLeft(i int) {
	left, child := n.children[i-1].copy(), n.children[i].copy()
	last := len(left.keys) - 1
	child.insert(0, n.keys[i-1], n.values[i-1])
	n.keys[i-1], n.values[i-1] = left.keys[last], left.values[last]
	left.remove(last)
	if !left.leaf() {
		child.children = slices.Insert(child.children, 0, left.children[last+1])
		left.children = left.children[:last+1]
	}
	n.children[i-1], n.children[i] = left, child
}

// fromRight moves a key from child i + 1 to child i.
func (n *node[K, V]) fromRight(i int) {
	child, right := n.children[i].copy(), n.children[i+1].copy()
	child.insert(len(child.keys), n.keys[i], n.values[i])
	n.keys[i], n.values[i] = right.keys[0], right.values[0]
	right.remove(0)
	if !right.leaf() {
		child.children = append(child.children, right.children[0])
		right.children = slices.Delete(right.children, 0, 1)
	}
	n.children[i], n.children[i+1] = child, right
}

// merge makes the children i and i + 1 and the key between them a single child.
func (n *node[K, V]) merge(i int) {
	m, right := n.children[i].copy(), n.children[i+1]
	m.insert(len(m.keys), n.keys[i], n.values[i])
	m.keys = append(m.keys, right.keys...)
	m.values = append(m.values, right.values...)
	m.children = append(m.children, right.children...)
	n.remove(i)
	n.children[i] = m
	n.children = slices.Delete(n.children, i+1, i+2)
}

// walk yields the keys from low to before high, and reports whether to go on behind n.
func (n *node[K, V]) walk(low, high *K, yield func(K, V) bool) bool {
	i := 0
	if low != nil {
		i, _ = n.find(*low)
	}
	for ; i <= len(n.keys); i++ {
		if !n.leaf() && !n.children[i].walk(low, high, yield) {
			return false
		}
		if i == len(n.keys) {
			break
		}
		if high != nil && cmp.Compare(n.keys[i], *high) >= 0 || !yield(n.keys[i], n.values[i]) {
			return false
		}
		low = nil
	}
	return true
}
