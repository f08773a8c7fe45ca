package pile

// item is a key and its rank.
type item struct {
	key  int
	rank int
}

// items is what package heap works on: a row in the order that it keeps, and each key's place there, so that a key is found without a search.
type items struct {
	row    []item
	places map[int]int
}

// Len: how many there are.
func (s *items) Len() int {
	return len(s.row)
}

// Less: is the i-th one nearer to the top than the j-th one?
func (s *items) Less(i, j int) bool {
	a, b := s.row[i], s.row[j]
	if a.rank != b.rank {
		return a.rank < b.rank
	}
	return a.key < b.key
}

// Swap: both have exchanged their places.
func (s *items) Swap(i, j int) {
	s.row[i], s.row[j] = s.row[j], s.row[i]
	s.places[s.row[i].key] = i
	s.places[s.row[j].key] = j
}

// Push: x is the last one; it is of no other type than item, for only Pile hands one in.
func (s *items) Push(x any) {
	last := x.(item)
	s.places[last.key] = len(s.row)
	s.row = append(s.row, last)
}

// Pop: the last one, which is not there any more.
func (s *items) Pop() any {
	end := len(s.row) - 1
	last := s.row[end]
	delete(s.places, last.key)
	s.row = s.row[:end]
	return last
}
