package btree

import "cmp"

// Valid reports whether the invariants of a B-tree hold.
func (t *Tree[K, V]) Valid() bool {
	if t.root == nil {
		return t.size == 0
	}
	size, ok := t.check(t.root, t.Height(), nil, nil)
	return ok && size == t.size
}

// check reports whether the invariants hold for n, whose keys lie between low and high, and returns the number of keys.
func (t *Tree[K, V]) check(n *node[K, V], height int, low, high *K) (int, bool) {
	least := t.least()
	if n == t.root {
		least = 1
	}
	if len(n.keys) < least || len(n.keys) >= t.order || len(n.values) != len(n.keys) || !ascending(n.keys, low, high) {
		return 0, false
	}
	if n.leaf() {
		return len(n.keys), height == 1
	}
	if len(n.children) != len(n.keys)+1 {
		return 0, false
	}
	size := len(n.keys)
	for i, c := range n.children {
		from, to := low, high
		if i > 0 {
			from = &n.keys[i-1]
		}
		if i < len(n.keys) {
			to = &n.keys[i]
		}
		s, ok := t.check(c, height-1, from, to)
		if !ok {
			return 0, false
		}
		size += s
	}
	return size, true
}

// ascending reports whether keys ascend strictly and lie between low and high, which may be absent.
func ascending[K cmp.Ordered](keys []K, low, high *K) bool {
	for i, k := range keys {
		if i > 0 {
			low = &keys[i-1]
		}
		if low != nil && cmp.Compare(*low, k) >= 0 {
			return false
		}
	}
	return high == nil || len(keys) == 0 || cmp.Compare(keys[len(keys)-1], *high) < 0
}
