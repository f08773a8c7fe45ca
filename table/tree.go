package table

// A side of a tree is too heavy if it weighs more than heavy times what the other side does. It is leant over at once if its inner side weighs less than light times what its outer one does. With these two numbers a tree of which one key was put in, or taken out, is balanced again.
const (
	heavy = 3
	light = 2
)

// node is a tree that is not empty: a key, and what is ahead of it (left) and behind it (right). It is not changed once it is made: trees share their nodes.
type node[V any] struct {
	key   string
	value V
	size  int // so many keys are in the tree
	left  *node[V]
	right *node[V]
}

// size: how many keys are in the tree.
func size[V any](n *node[V]) int {
	if n == nil {
		return 0
	}
	return n.size
}

// weight: an empty side weighs something too, so that what is heavy can be told by products.
func weight[V any](n *node[V]) int {
	return size(n) + 1
}

// find: the key's node; nil, if there is none.
func find[V any](n *node[V], key string) *node[V] {
	for n != nil && n.key != key {
		if key < n.key {
			n = n.left
		} else {
			n = n.right
		}
	}
	return n
}

// pick: the node of the i-th key; nil, if there is none.
func pick[V any](n *node[V], i int) *node[V] {
	for n != nil && i != size(n.left) {
		if i < size(n.left) {
			n = n.left
		} else {
			i -= size(n.left) + 1
			n = n.right
		}
	}
	return n
}

// tell goes over the keys that are not ahead of from, and answers false if it was left.
func tell[V any](n *node[V], from string, yield func(string, V) bool) bool {
	if n == nil {
		return true
	}
	if n.key < from {
		return tell(n.right, from, yield)
	}
	return tell(n.left, from, yield) && yield(n.key, n.value) && tell(n.right, from, yield)
}

// with: the tree in which the key has the value.
func with[V any](n *node[V], key string, v V) *node[V] {
	switch {
	case n == nil:
		return &node[V]{key: key, value: v, size: 1}
	case key < n.key:
		return balance(n, with(n.left, key, v), n.right)
	case key > n.key:
		return balance(n, n.left, with(n.right, key, v))
	}
	return &node[V]{key: key, value: v, size: n.size, left: n.left, right: n.right}
}

// without: the tree but for the key, which it has.
func without[V any](n *node[V], key string) *node[V] {
	switch {
	case key < n.key:
		return balance(n, without(n.left, key), n.right)
	case key > n.key:
		return balance(n, n.left, without(n.right, key))
	case n.right == nil:
		return n.left
	}
	next := pick(n.right, 0)
	return balance(next, n.left, without(n.right, next.key))
}

// fork: the tree of n's key and value between those two sides.
func fork[V any](n *node[V], left, right *node[V]) *node[V] {
	return &node[V]{key: n.key, value: n.value, size: size(left) + 1 + size(right), left: left, right: right}
}

// balance: fork, with the sides leant over if one is too heavy.
func balance[V any](n *node[V], left, right *node[V]) *node[V] {
	switch {
	case weight(right) > heavy*weight(left):
		return leanLeft(n, left, right)
	case weight(left) > heavy*weight(right):
		return leanRight(n, left, right)
	}
	return fork(n, left, right)
}

// leanLeft: fork, with keys of the right side, which is too heavy, put to the left one.
func leanLeft[V any](n *node[V], left, right *node[V]) *node[V] {
	inner, outer := right.left, right.right
	if weight(inner) < light*weight(outer) {
		return fork(right, fork(n, left, inner), outer)
	}
	return fork(inner, fork(n, left, inner.left), fork(right, inner.right, outer))
}

// leanRight: fork, with keys of the left side, which is too heavy, put to the right one.
func leanRight[V any](n *node[V], left, right *node[V]) *node[V] {
	inner, outer := left.right, left.left
	if weight(inner) < light*weight(outer) {
		return fork(left, outer, fork(n, inner, right))
	}
	return fork(inner, fork(left, outer, inner.left), fork(n, inner.right, right))
}
