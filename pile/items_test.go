package pile

import (
	"math"
	"math/rand"
	"testing"
)

// wantOrder: no item is less than the one that package heap puts above it, and each key's place is told truly, no key's beside them.
func wantOrder(t *testing.T, p *Pile) {
	t.Helper()
	if p.items == nil {
		return
	}
	if len(p.items.places) != len(p.items.row) {
		t.Fatalf("%d places of %d items", len(p.items.places), len(p.items.row))
	}
	for i, each := range p.items.row {
		if place, ok := p.items.places[each.key]; place != i || !ok {
			t.Fatalf("the key %d stands at %d, and its place is %d, %v", each.key, i, place, ok)
		}
		if i > 0 && p.items.Less(i, (i-1)/2) {
			t.Fatalf("the item %v at %d is less than the one above it, %v", each, i, p.items.row[(i-1)/2])
		}
	}
}

func TestLess(t *testing.T) {
	rising := []item{
		{math.MinInt, math.MinInt}, {-1, math.MinInt}, {0, math.MinInt}, {math.MaxInt, math.MinInt},
		{5, -1}, {6, -1}, {math.MinInt, 0}, {-9, 0}, {0, 0}, {math.MaxInt, 0}, {4, 1},
		{math.MinInt, math.MaxInt}, {math.MaxInt - 1, math.MaxInt}, {math.MaxInt, math.MaxInt},
	}
	s := &items{row: rising}
	for i := range rising {
		for j := range rising {
			if got := s.Less(i, j); got != (i < j) {
				t.Errorf("Less of %v and %v is %v", rising[i], rising[j], got)
			}
		}
	}
}

// TestOrderIsKept: behind each step, by chance; few keys and many, few ranks and many.
func TestOrderIsKept(t *testing.T) {
	chance := rand.New(rand.NewSource(1))
	for _, keys := range []int{1, 2, 3, 10, 100, 1000} {
		for _, ranks := range []int{1, 2, 5, 1000} {
			p := New()
			for range 3000 {
				key, rank := chance.Intn(keys), chance.Intn(ranks)
				switch chance.Intn(8) {
				case 0:
					p.Pop()
				case 1:
					p.Drop(key)
				case 2, 3:
					p.Move(key, rank)
				default:
					p.Push(key, rank)
				}
				wantOrder(t, p)
			}
			for p.Len() > 0 {
				p.Pop()
				wantOrder(t, p)
			}
		}
	}
}
