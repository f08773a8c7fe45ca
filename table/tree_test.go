package table

import (
	"math/rand"
	"testing"
)

// wantBalanced: each side of each node is no more than heavy times as heavy as the other one, sizes are told truly, and keys rise.
func wantBalanced(t *testing.T, n *node[int], above, below string) {
	t.Helper()
	if n == nil {
		return
	}
	if n.size != size(n.left)+1+size(n.right) {
		t.Fatalf("%q: size %d of %d and %d", n.key, n.size, size(n.left), size(n.right))
	}
	if weight(n.left) > heavy*weight(n.right) || weight(n.right) > heavy*weight(n.left) {
		t.Fatalf("%q: sides of %d and %d", n.key, size(n.left), size(n.right))
	}
	if n.key <= above || n.key >= below {
		t.Fatalf("%q is not between %q and %q", n.key, above, below)
	}
	wantBalanced(t, n.left, above, n.key)
	wantBalanced(t, n.right, n.key, below)
}

// name: keys that rise as the numbers do.
func name(i int) string {
	return string([]byte{'k', byte(i >> 8), byte(i)})
}

// TestBalanced: behind each step, in rows of many puts and many deletes, that rise, fall or go by chance.
func TestBalanced(t *testing.T) {
	const many = 400
	chance := rand.New(rand.NewSource(1))
	places := []func(int) int{
		func(i int) int { return i },
		func(i int) int { return many - 1 - i },
		func(i int) int { return i * 7 % many },
		func(int) int { return chance.Intn(many) },
		func(i int) int { return many/2 + (i+1)/2*(1-2*(i%2)) },
	}
	for _, put := range places {
		for _, remove := range places {
			tab := New[int]()
			for i := range many {
				tab.Put(name(put(i)), i)
				wantBalanced(t, tab.root, "", "l")
			}
			for i := range many {
				tab.Delete(name(remove(i)))
				wantBalanced(t, tab.root, "", "l")
			}
		}
	}
}

// TestOldTreesStay: a tree that a copy keeps is as it was, node by node, whatever is done with the Table.
func TestOldTreesStay(t *testing.T) {
	const many = 60
	chance := rand.New(rand.NewSource(2))
	tab := New[int]()
	var copies []*Table[int]
	var were []string
	for range 40 * many {
		copies, were = append(copies, tab.Copy()), append(were, shape(tab.root))
		if key := name(chance.Intn(many)); chance.Intn(2) == 0 {
			tab.Put(key, chance.Intn(9))
		} else {
			tab.Delete(key)
		}
	}
	for i, each := range copies {
		if now := shape(each.root); now != were[i] {
			t.Fatalf("the copy at step %d was %q and is %q", i, were[i], now)
		}
	}
}

// shape: the tree as a text.
func shape(n *node[int]) string {
	if n == nil {
		return "."
	}
	return "(" + shape(n.left) + n.key + string(rune('0'+n.value)) + shape(n.right) + ")"
}
