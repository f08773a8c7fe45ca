package pile_test

import (
	"fmt"
	"maps"
	"math"
	"math/rand"
	"slices"
	"testing"

	"horarium/pile"
)

// plain is what a Pile is to be: of each key that is in it the rank.
type plain map[int]int

// entry is a key and its rank.
type entry struct {
	key  int
	rank int
}

// rising are the keys and their ranks, by rank, then key.
func (m plain) rising() []entry {
	var out []entry
	for key, rank := range m {
		out = append(out, entry{key, rank})
	}
	slices.SortFunc(out, func(a, b entry) int {
		switch {
		case a.rank < b.rank || a.rank == b.rank && a.key < b.key:
			return -1
		case a == b:
			return 0
		}
		return 1
	})
	return out
}

// top is the entry on top; false, if there is none.
func (m plain) top() (entry, bool) {
	first, there := entry{}, false
	for key, rank := range m {
		if !there || rank < first.rank || rank == first.rank && key < first.key {
			first, there = entry{key, rank}, true
		}
	}
	return first, there
}

// wild are ints over the whole range.
func wild() []int {
	return []int{math.MinInt, math.MinInt + 1, -1 << 40, math.MinInt32 - 1, math.MinInt32, -1000, -2, -1, 0, 1, 2, 9, 1000, math.MaxInt32, math.MaxInt32 + 1, math.MaxUint32, 1 << 32, 1 << 40, math.MaxInt - 1, math.MaxInt}
}

// of is a Pile of the entries, pushed in that order, and what it is to be.
func of(t *testing.T, l ...entry) (*pile.Pile, plain) {
	t.Helper()
	p, m := pile.New(), plain{}
	for _, e := range l {
		wantPush(t, p, e.key, e.rank, true)
		m[e.key] = e.rank
	}
	return p, m
}

func wantPush(t *testing.T, p *pile.Pile, key, rank int, want bool) {
	t.Helper()
	if got := p.Push(key, rank); got != want {
		t.Errorf("Push(%d, %d) = %v", key, rank, got)
	}
}

func wantMove(t *testing.T, p *pile.Pile, key, rank int, want bool) {
	t.Helper()
	if got := p.Move(key, rank); got != want {
		t.Errorf("Move(%d, %d) = %v", key, rank, got)
	}
}

func wantDrop(t *testing.T, p *pile.Pile, key int, want bool) {
	t.Helper()
	if got := p.Drop(key); got != want {
		t.Errorf("Drop(%d) = %v", key, got)
	}
}

func wantTop(t *testing.T, call string, key, rank int, ok bool, want entry, there bool) {
	t.Helper()
	if (entry{key, rank}) != want || ok != there {
		t.Errorf("%s() = %d, %d, %v, want %d, %d, %v", call, key, rank, ok, want.key, want.rank, there)
	}
}

func wantPeek(t *testing.T, p *pile.Pile, want entry, there bool) {
	t.Helper()
	key, rank, ok := p.Peek()
	wantTop(t, "Peek", key, rank, ok, want, there)
}

func wantPop(t *testing.T, p *pile.Pile, want entry, there bool) {
	t.Helper()
	key, rank, ok := p.Pop()
	wantTop(t, "Pop", key, rank, ok, want, there)
}

func wantRank(t *testing.T, p *pile.Pile, key, want int, there bool) {
	t.Helper()
	if got, ok := p.Rank(key); got != want || ok != there {
		t.Errorf("Rank(%d) = %d, %v, want %d, %v", key, got, ok, want, there)
	}
}

func wantLen(t *testing.T, p *pile.Pile, want int) {
	t.Helper()
	if got := p.Len(); got != want {
		t.Errorf("Len() = %d, want %d", got, want)
	}
}

// wantPile: each call that only asks answers what m says, of its keys and of the probes, also once more.
func wantPile(t *testing.T, p *pile.Pile, m plain, probes ...int) {
	t.Helper()
	top, there := m.top()
	for range 2 {
		wantLen(t, p, len(m))
		wantPeek(t, p, top, there)
		for key, rank := range m {
			wantRank(t, p, key, rank, true)
		}
		for _, key := range probes {
			rank, is := m[key]
			wantRank(t, p, key, rank, is)
		}
	}
}

// wantPopped: all that is there is popped, rising by rank, then key; behind it there is nothing, and that may be asked again.
func wantPopped(t *testing.T, p *pile.Pile, m plain) {
	t.Helper()
	left := maps.Clone(m)
	for i, e := range m.rising() {
		wantLen(t, p, len(m)-i)
		wantPeek(t, p, e, true)
		wantPop(t, p, e, true)
		wantRank(t, p, e.key, 0, false)
		delete(left, e.key)
		if len(m) < 100 {
			wantPile(t, p, left)
		}
	}
	for range 2 {
		wantPop(t, p, entry{}, false)
		wantPile(t, p, nil)
	}
}

// The chapter's examples

func TestExample(t *testing.T) {
	p, _ := of(t, entry{5, 1}, entry{4, 1}, entry{9, 0})
	wantPop(t, p, entry{9, 0}, true)
	wantPop(t, p, entry{4, 1}, true)
	wantPop(t, p, entry{5, 1}, true)
	wantPop(t, p, entry{}, false)
}

// P7.1: New, Push, Move, Drop

func TestNoKeys(t *testing.T) {
	p := pile.New()
	if p == nil {
		t.Fatal("New() is nil")
	}
	wantPile(t, p, nil, wild()...)
	for _, key := range wild() {
		wantDrop(t, p, key, false)
		wantMove(t, p, key, 7, false)
		wantPile(t, p, nil, key)
		wantPop(t, p, entry{}, false)
		wantPile(t, p, nil, key)
	}
}

// TestNewIsNew: each call makes a pile of its own.
func TestNewIsNew(t *testing.T) {
	one, two := pile.New(), pile.New()
	wantPush(t, one, 1, 5, true)
	wantPile(t, two, nil, 1)
	wantPush(t, two, 1, 6, true)
	wantPush(t, two, 2, 7, true)
	wantPile(t, one, plain{1: 5}, 2)
	wantDrop(t, one, 1, true)
	wantPile(t, two, plain{1: 6, 2: 7})
}

func TestOneKey(t *testing.T) {
	for _, key := range wild() {
		for _, rank := range wild() {
			p, m := of(t, entry{key, rank})
			wantPile(t, p, m, wild()...)
			wantMove(t, p, key, -rank, true)
			wantPile(t, p, plain{key: -rank}, wild()...)
			wantDrop(t, p, key, true)
			wantPile(t, p, nil, wild()...)
			wantPush(t, p, key, rank, true)
			wantPopped(t, p, m)
		}
	}
}

// TestWildKeysAndRanks: keys over the whole range with ranks over the whole range, each one with each shift.
func TestWildKeysAndRanks(t *testing.T) {
	l := wild()
	for shift := range l {
		p, m := pile.New(), plain{}
		for i, key := range l {
			rank := l[(i*7+shift)%len(l)]
			wantPush(t, p, key, rank, true)
			m[key] = rank
			wantPile(t, p, m, l...)
		}
		for i, key := range l {
			m[key] = l[(i*3+shift)%len(l)]
			wantMove(t, p, key, m[key], true)
			wantPile(t, p, m)
		}
		wantPopped(t, p, m)
	}
}

// TestPushTwice: a key that is there is not pushed again, whatever its rank, wherever it stands.
func TestPushTwice(t *testing.T) {
	l := []entry{{3, 30}, {1, 10}, {2, 20}, {5, 10}, {4, 20}}
	p, m := of(t, l...)
	for _, e := range l {
		for _, rank := range append(wild(), e.rank, e.rank-1, e.rank+1, 10, 20, 30) {
			wantPush(t, p, e.key, rank, false)
			wantPile(t, p, m)
		}
	}
	wantPopped(t, p, m)
}

// TestPushAgain: behind Drop, and behind Pop, with the rank that it had and with another one.
func TestPushAgain(t *testing.T) {
	for _, rank := range append(wild(), 10, 15, 20, 25, 30, 35) {
		for _, key := range []int{1, 2, 3} {
			p, m := of(t, entry{2, 20}, entry{1, 10}, entry{3, 30})
			wantDrop(t, p, key, true)
			wantPush(t, p, key, rank, true)
			m[key] = rank
			wantPile(t, p, m)
			wantPush(t, p, key, 0, false)
			wantPopped(t, p, m)
		}
		p, m := of(t, entry{2, 20}, entry{1, 10}, entry{3, 30})
		wantPop(t, p, entry{1, 10}, true)
		wantPush(t, p, 1, rank, true)
		m[1] = rank
		wantPile(t, p, m)
		wantPush(t, p, 1, 10, false)
		wantPopped(t, p, m)
		wantPush(t, p, 2, rank, true)
		wantPile(t, p, plain{2: rank}, 1, 3)
	}
}

// TestMove: each key up, down, to the rank that it has and to one that others have.
func TestMove(t *testing.T) {
	l := []entry{{4, 40}, {1, 10}, {7, 20}, {2, 20}, {6, 60}, {3, 30}, {5, 50}}
	for _, e := range l {
		for _, rank := range append(wild(), 5, 10, 15, 20, 25, 30, 35, 40, 45, 50, 55, 60, 65) {
			p, m := of(t, l...)
			wantMove(t, p, e.key, rank, true)
			m[e.key] = rank
			wantPile(t, p, m, 0, 8)
			wantMove(t, p, e.key, rank, true)
			wantPile(t, p, m)
			wantMove(t, p, e.key, e.rank, true)
			wantPile(t, p, plain{4: 40, 1: 10, 7: 20, 2: 20, 6: 60, 3: 30, 5: 50})
			wantMove(t, p, e.key, rank, true)
			wantPopped(t, p, m)
		}
	}
}

// TestMoveTakesItsTurn: the key on top goes down, and the last one to the top; of equal ranks the least key is on top.
func TestMoveTakesItsTurn(t *testing.T) {
	p, _ := of(t, entry{1, 1}, entry{2, 2}, entry{3, 3})
	wantMove(t, p, 1, 4, true)
	wantPeek(t, p, entry{2, 2}, true)
	wantMove(t, p, 3, 2, true)
	wantPeek(t, p, entry{2, 2}, true)
	wantMove(t, p, 1, 2, true)
	wantPeek(t, p, entry{1, 2}, true)
	wantMove(t, p, 3, -1, true)
	wantPop(t, p, entry{3, -1}, true)
	wantPop(t, p, entry{1, 2}, true)
	wantPop(t, p, entry{2, 2}, true)
	wantLen(t, p, 0)
}

// TestNotThere: what is moved or dropped though it is not there changes nothing, and is not put there.
func TestNotThere(t *testing.T) {
	p, m := of(t, entry{2, 20}, entry{1, 10}, entry{3, 30}, entry{4, 10})
	wantPop(t, p, entry{1, 10}, true)
	wantDrop(t, p, 3, true)
	delete(m, 1)
	delete(m, 3)
	for _, key := range []int{1, 3, 0, -2, 5, 10, 20, math.MinInt, math.MaxInt} {
		for _, rank := range wild() {
			wantMove(t, p, key, rank, false)
			wantPile(t, p, m, key)
		}
		wantDrop(t, p, key, false)
		wantPile(t, p, m, key)
	}
	wantPopped(t, p, m)
}

// TestDrop: each key, from the top, from the end and from between, and once more.
func TestDrop(t *testing.T) {
	l := []entry{{1, 1}, {10, 10}, {2, 2}, {11, 11}, {12, 12}, {3, 3}, {4, 4}, {20, 1}, {5, 5}}
	for _, order := range [][]entry{l, pairs(l).rising(), reversed(l)} {
		for _, e := range order {
			p, m := of(t, order...)
			wantDrop(t, p, e.key, true)
			delete(m, e.key)
			wantPile(t, p, m, e.key)
			wantDrop(t, p, e.key, false)
			wantPile(t, p, m, e.key)
			wantMove(t, p, e.key, 0, false)
			wantPile(t, p, m, e.key)
			wantPopped(t, p, m)
		}
	}
}

// TestDropAll: from the first on, from the last on, and by chance; the pile may be used again.
func TestDropAll(t *testing.T) {
	l := someEntries(40, 9, 1)
	for _, order := range [][]entry{l, reversed(l), pairs(l).rising(), reversed(pairs(l).rising()), shuffled(l, 2)} {
		p, m := of(t, l...)
		for _, e := range order {
			wantDrop(t, p, e.key, true)
			delete(m, e.key)
			wantPile(t, p, m, e.key)
		}
		wantPop(t, p, entry{}, false)
		for _, e := range order {
			wantPush(t, p, e.key, e.rank, true)
		}
		wantPopped(t, p, pairs(l))
	}
}

// P7.2: Peek, Pop, Rank, Len

// TestPeekAndPop: Peek changes nothing, and Pop takes just what Peek told.
func TestPeekAndPop(t *testing.T) {
	l := someEntries(60, 7, 3)
	p, m := of(t, l...)
	for len(m) > 0 {
		key, rank, ok := p.Peek()
		for range 3 {
			wantPeek(t, p, entry{key, rank}, ok)
			wantPile(t, p, m)
		}
		wantPop(t, p, entry{key, rank}, true)
		if was, there := m[key]; was != rank || !there || !ok {
			t.Fatalf("Peek() = %d, %d, %v: %d, %v", key, rank, ok, was, there)
		}
		delete(m, key)
		wantPile(t, p, m, key)
	}
	wantPeek(t, p, entry{}, false)
	wantPop(t, p, entry{}, false)
}

// TestZeroIsAKey: the key 0 of the rank 0 is told with true; without it false stands there.
func TestZeroIsAKey(t *testing.T) {
	p, m := of(t, entry{0, 0})
	wantPile(t, p, m)
	wantPush(t, p, 0, 1, false)
	wantMove(t, p, 0, 0, true)
	wantPop(t, p, entry{0, 0}, true)
	wantPile(t, p, nil, 0)
	wantPop(t, p, entry{}, false)
}

// P7.3: what is popped rises by rank, then key

// TestEqualRanks: the least key is on top, however they were pushed.
func TestEqualRanks(t *testing.T) {
	for _, rank := range wild() {
		for seed := range int64(5) {
			p, m := pile.New(), plain{}
			for _, e := range shuffled(someEntries(30, 1, 4), seed) {
				wantPush(t, p, e.key, rank, true)
				m[e.key] = rank
				wantPile(t, p, m)
			}
			wantPopped(t, p, m)
		}
	}
}

// TestEachOrder: six keys of three ranks, pushed in each order.
func TestEachOrder(t *testing.T) {
	l := []entry{{1, 2}, {2, 1}, {3, 1}, {4, 3}, {5, 2}, {-6, 2}}
	orders := 0
	var put func(at int)
	put = func(at int) {
		if at == len(l) {
			orders++
			p, m := of(t, l...)
			wantPile(t, p, m)
			wantPopped(t, p, m)
			return
		}
		for i := at; i < len(l); i++ {
			l[at], l[i] = l[i], l[at]
			put(at + 1)
			l[at], l[i] = l[i], l[at]
		}
	}
	put(0)
	if orders != 720 {
		t.Errorf("%d orders", orders)
	}
}

func TestManyKeys(t *testing.T) {
	for _, ranks := range []int{1, 2, 100, 1 << 40} {
		l := someEntries(2000, ranks, int64(ranks))
		for _, order := range [][]entry{l, reversed(l), pairs(l).rising(), reversed(pairs(l).rising())} {
			p, m := of(t, order...)
			wantPile(t, p, m)
			wantPopped(t, p, m)
		}
	}
}

// step is one call: a push, a move, a drop or a pop.
type step struct {
	call byte
	key  int
	rank int
}

// steps are all the calls with these keys and ranks.
func steps(keys, ranks []int) []step {
	out := []step{{call: 'o'}}
	for _, key := range keys {
		out = append(out, step{'d', key, 0})
		for _, rank := range ranks {
			out = append(out, step{'p', key, rank}, step{'m', key, rank})
		}
	}
	return out
}

// do does the step with the pile and with what it is to be.
func (s step) do(t *testing.T, p *pile.Pile, m plain) {
	t.Helper()
	_, had := m[s.key]
	switch s.call {
	case 'p':
		wantPush(t, p, s.key, s.rank, !had)
		if !had {
			m[s.key] = s.rank
		}
	case 'm':
		wantMove(t, p, s.key, s.rank, had)
		if had {
			m[s.key] = s.rank
		}
	case 'd':
		wantDrop(t, p, s.key, had)
		delete(m, s.key)
	case 'o':
		top, there := m.top()
		wantPop(t, p, top, there)
		delete(m, top.key)
	}
}

// TestEachFewSteps: all rows of four calls with three keys and two ranks, against the map.
func TestEachFewSteps(t *testing.T) {
	all := steps([]int{0, 1, 2}, []int{0, 1})
	row := make([]step, 4)
	rows := 0
	var walk func(at int)
	walk = func(at int) {
		if at < len(row) {
			for _, s := range all {
				row[at] = s
				walk(at + 1)
			}
			return
		}
		rows++
		p, m := pile.New(), plain{}
		for _, s := range row {
			s.do(t, p, m)
			wantPile(t, p, m, 0, 1, 2)
		}
		wantPopped(t, p, m)
		if t.Failed() {
			t.Fatalf("behind %v", row)
		}
	}
	walk(0)
	if rows != 16*16*16*16 {
		t.Errorf("%d rows", rows)
	}
}

// TestStepsByChance: long rows of calls, of few keys and of many, against the map.
func TestStepsByChance(t *testing.T) {
	for seed := range int64(12) {
		chance := rand.New(rand.NewSource(seed))
		keys, ranks := wild(), wild()
		if seed%2 == 0 {
			keys, ranks = upTo(100), upTo(int(seed)+1)
		}
		p, m := pile.New(), plain{}
		for range 3000 {
			s := step{"ppppmmmdo"[chance.Intn(9)], keys[chance.Intn(len(keys))], ranks[chance.Intn(len(ranks))]}
			s.do(t, p, m)
			wantPile(t, p, m, s.key)
			if t.Failed() {
				t.Fatalf("behind %v, by the seed %d", s, seed)
			}
		}
		wantPopped(t, p, m)
	}
}

// TestManyKeysAreFast: a call takes no longer than the pile is high; else this would not end in time.
func TestManyKeysAreFast(t *testing.T) {
	const many = 200000
	p := pile.New()
	for key := range many {
		wantPush(t, p, key, -key, true)
	}
	for key := range many {
		wantMove(t, p, key, key%1000, true)
	}
	for key := 0; key < many; key += 2 {
		wantDrop(t, p, key, true)
	}
	wantLen(t, p, many/2)
	last := entry{-1, -1}
	for range many / 2 {
		key, rank, ok := p.Pop()
		if !ok || rank != key%1000 || key%2 == 0 || rank < last.rank || rank == last.rank && key <= last.key {
			t.Fatalf("Pop() = %d, %d, %v behind %v", key, rank, ok, last)
		}
		last = entry{key, rank}
	}
	wantPile(t, p, nil)
}

// Objects that are nil, or that New did not make

func TestNilPile(t *testing.T) {
	var p *pile.Pile
	for range 2 {
		for _, n := range wild() {
			wantPush(t, p, n, n, false)
			wantMove(t, p, n, n, false)
			wantDrop(t, p, n, false)
			wantPop(t, p, entry{}, false)
			wantPile(t, p, nil, n)
		}
	}
}

// notMade are piles without keys that New did not make.
func notMade() []*pile.Pile {
	var one pile.Pile
	var rows [2]pile.Pile
	within := struct {
		name string
		p    pile.Pile
	}{}
	return []*pile.Pile{&one, new(pile.Pile), {}, &rows[0], &rows[1], &make([]pile.Pile, 3)[2], &within.p}
}

// TestNotMade: a pile that New did not make is empty, in each call, and may be used.
func TestNotMade(t *testing.T) {
	for i := range notMade() {
		for _, key := range wild() {
			p := notMade()[i]
			wantPile(t, p, nil, key)
			wantMove(t, p, key, 1, false)
			wantPile(t, p, nil, key)
			wantDrop(t, p, key, false)
			wantPile(t, p, nil, key)
			wantPop(t, p, entry{}, false)
			wantPile(t, p, nil, key)
			wantPush(t, p, key, 3, true)
			wantPile(t, p, plain{key: 3})
			wantPush(t, p, ^key, 3, true)
			wantPopped(t, p, plain{key: 3, ^key: 3})
		}
	}
	for _, s := range steps([]int{math.MinInt, 0, 4}, []int{-1, 0}) {
		for _, p := range notMade() {
			m := plain{}
			s.do(t, p, m)
			wantPile(t, p, m, s.key)
			wantPopped(t, p, m)
		}
	}
}

// TestNotMadeKeepToThemselves: one knows nothing of another one.
func TestNotMadeKeepToThemselves(t *testing.T) {
	all := notMade()
	for i, p := range all {
		wantPush(t, p, 5, i, true)
	}
	for i, p := range all {
		wantPopped(t, p, plain{5: i})
	}
}

// TestCopiedStruct: of a pile that is copied as a struct no call panics; both are the same pile, if it had been used.
func TestCopiedStruct(t *testing.T) {
	p, m := of(t, entry{1, 10}, entry{2, 20}, entry{3, 30})
	q := *p
	for key := 4; key < 20; key++ {
		wantPush(t, p, key, key, true)
		m[key] = key
		wantPile(t, &q, m)
	}
	for key := 2; key < 20; key += 2 {
		wantDrop(t, &q, key, true)
		delete(m, key)
		wantPile(t, p, m, key)
	}
	wantPopped(t, p, m)
	wantPile(t, &q, nil, 1)
}

func TestCopiedStructWithoutKeys(t *testing.T) {
	for _, p := range notMade() {
		q := *p
		wantPush(t, p, 1, 10, true)
		wantPile(t, &q, nil, 1)
		wantPush(t, &q, 2, 20, true)
		wantPopped(t, p, plain{1: 10})
		wantPopped(t, &q, plain{2: 20})
	}
}

// TestAgain: the same calls have the same answers, in whatever pile (R6).
func TestAgain(t *testing.T) {
	first := ""
	for range 5 {
		p, told := pile.New(), ""
		for _, e := range someEntries(300, 4, 8) {
			told += fmt.Sprint(p.Push(e.key, e.rank), p.Len())
		}
		for p.Len() > 0 {
			key, rank, ok := p.Pop()
			told += fmt.Sprint(key, rank, ok)
		}
		if first == "" {
			first = told
		}
		if told != first {
			t.Fatal("the same calls, other answers")
		}
	}
}

// someEntries are entries with keys of their own, below 0 too, and that many ranks; the same for the same seed.
func someEntries(many, ranks int, seed int64) []entry {
	chance := rand.New(rand.NewSource(seed))
	var out []entry
	for _, key := range chance.Perm(many) {
		out = append(out, entry{3 * (key - many/2), chance.Intn(ranks) - ranks/2})
	}
	return out
}

func pairs(l []entry) plain {
	m := plain{}
	for _, e := range l {
		m[e.key] = e.rank
	}
	return m
}

func reversed(l []entry) []entry {
	out := slices.Clone(l)
	slices.Reverse(out)
	return out
}

func shuffled(l []entry, seed int64) []entry {
	out := slices.Clone(l)
	rand.New(rand.NewSource(seed)).Shuffle(len(out), func(i, j int) { out[i], out[j] = out[j], out[i] })
	return out
}

func upTo(n int) []int {
	var out []int
	for i := range n {
		out = append(out, i)
	}
	return out
}
