package person_test

import (
	"math"
	"math/rand"
	"slices"
	"strings"
	"testing"

	"horarium/api"
	"horarium/person"
)

const (
	allWeeks = math.MaxUint32
	allDays  = math.MaxUint8
)

// wild are numbers that neither a grid nor a time may have, over the int's whole range; those among them that are about 2^32 look well if they are cut short.
func wild() []int {
	return []int{math.MinInt, math.MinInt + 1, math.MinInt + 96, math.MinInt32, -1 << 32, -1<<32 + 1, -97, -96, -2, -1, 10001, 1 << 16, math.MaxInt32, 1 << 32, 1<<32 + 1, 1<<62 + 1, math.MaxInt - 96, math.MaxInt - 1, math.MaxInt}
}

func grid(weeks, days, slots int) api.Grid {
	return api.Grid{Weeks: weeks, Days: days, Slots: slots}
}

func at(weeks uint32, days uint8, start, length int) api.When {
	return api.When{Weeks: weeks, Days: days, Start: start, Len: length}
}

// on is a time of the first day of the first week.
func on(start, length int) api.When { return at(1, 1, start, length) }

// awayAt is a person who may be, wherever their Away may.
func awayAt(away ...api.When) api.Person {
	return api.Person{Name: "p", Away: away}
}

// several are n times, no two the same, each of which may be in the widest grid.
func several(n int) []api.When {
	var out []api.When
	for i := range n {
		out = append(out, at(1<<(i%20), 1<<(i%7), i%96, 1))
	}
	return out
}

// roomy are the same times, with room to spare behind their end, in which others stand.
func roomy(l []api.When) []api.When {
	return slices.Concat(l, several(5))[:len(l)]
}

// whole is all that stands in a row, its spare room too.
func whole(l []api.When) []api.When {
	return slices.Clone(l[:cap(l)])
}

func widest() api.Grid { return grid(20, 7, 96) }

// always is the time of all moments of g.
func always(g api.Grid) api.When {
	return at(1<<g.Weeks-1, 1<<g.Days-1, 0, g.Slots)
}

// grids are some that may be, the least and the greatest ones among them.
func grids() []api.Grid {
	return []api.Grid{grid(1, 1, 1), grid(1, 1, 2), grid(1, 2, 1), grid(2, 1, 1), grid(2, 2, 4), grid(3, 5, 10), grid(4, 6, 7), grid(20, 1, 1), grid(1, 7, 1), grid(1, 1, 96), grid(19, 6, 95), widest()}
}

// wrongGrids are some that may not be, by one number alone or by several.
func wrongGrids() []api.Grid {
	out := []api.Grid{{}, grid(21, 7, 96), grid(20, 8, 96), grid(20, 7, 97), grid(21, 8, 97), grid(0, 1, 1), grid(1, 0, 1), grid(1, 1, 0), grid(7, 20, 96), grid(96, 7, 20)}
	for _, n := range wild() {
		out = append(out, grid(n, 7, 96), grid(20, n, 96), grid(20, 7, n), grid(n, n, n))
	}
	return out
}

// times are all Whens that may be in g.
func times(g api.Grid) []api.When {
	out := []api.When{}
	for weeks := uint32(1); weeks < 1<<g.Weeks; weeks++ {
		for days := 1; days < 1<<g.Days; days++ {
			for start := range g.Slots {
				for length := 1; start+length <= g.Slots; length++ {
					out = append(out, at(weeks, uint8(days), start, length))
				}
			}
		}
	}
	return out
}

// beside are times that may not be in g, each by little alone, or by numbers that are wild.
func beside(g api.Grid) []api.When {
	out := []api.When{
		{}, at(0, 1, 0, 1), at(1, 0, 0, 1), on(0, 0), on(-1, 1), on(-1, 2), on(1, -1),
		at(1<<g.Weeks, 1, 0, 1), at(1<<g.Weeks|1, 1, 0, 1), at(1<<31, 1, 0, 1), at(allWeeks, 1, 0, 1),
		at(1, 1<<g.Days, 0, 1), at(1, 1<<g.Days|1, 0, 1), at(1, 1<<7, 0, 1), at(1, allDays, 0, 1),
		on(0, g.Slots+1), on(1, g.Slots), on(g.Slots, 1), on(g.Slots-1, 2), on(g.Slots+1, -1),
		on(math.MaxInt, math.MinInt), on(math.MaxInt, 1), on(math.MaxInt, math.MaxInt),
	}
	for _, n := range wild() {
		out = append(out, on(n, 1), on(0, n))
	}
	return out
}

// mixed are times of all kinds: tame and not, in few grids, in many, in none.
func mixed() []api.When {
	out := []api.When{
		on(0, 1), on(1, 1), on(0, 2), on(1, 2), at(3, 3, 0, 2), at(2, 1, 0, 2), at(1, 2, 0, 2), at(6, 6, 3, 4), on(2, 90),
		at(1<<19, 1<<6, 95, 1), at(1<<20-1, 127, 0, 96), at(1<<20, 1, 0, 1), at(1<<31, 1<<7, 0, 96), at(allWeeks, allDays, 96, 96), at(allWeeks, allDays, 96, 1), at(allWeeks, allDays, 95, 2), at(allWeeks, allDays, 0, 96),
		at(allWeeks, 0, 0, 96), at(0, allDays, 0, 96), at(allWeeks, allDays, 97, 1), at(allWeeks, allDays, 0, 97), at(allWeeks, allDays, 0, 0), at(allWeeks, allDays, 0, -1), at(allWeeks, allDays, -1, 2),
	}
	return slices.Concat(out, beside(widest()))
}

// someTime is one that may be in g, by chance.
func someTime(chance *rand.Rand, g api.Grid) api.When {
	length := 1 + chance.Intn(g.Slots)
	return api.When{
		Weeks: 1 + uint32(chance.Intn(1<<g.Weeks-1)),
		Days:  uint8(1 + chance.Intn(1<<g.Days-1)),
		Start: chance.Intn(g.Slots - length + 1),
		Len:   length,
	}
}

// shortTime is one that may be in g, by chance, on few days and of few slots.
func shortTime(chance *rand.Rand, g api.Grid) api.When {
	length := 1 + chance.Intn(min(g.Slots, 8))
	return at(1<<chance.Intn(g.Weeks)|1, 1<<chance.Intn(g.Days), chance.Intn(g.Slots-length+1), length)
}

// somePerson is one who may be in g, by chance.
func somePerson(chance *rand.Rand, g api.Grid) api.Person {
	p := api.Person{Name: strings.Repeat("n", 1+chance.Intn(24))}
	for range chance.Intn(17) {
		p.Away = append(p.Away, someTime(chance, g))
	}
	return p
}

// persons are some, who may be in a grid or in none.
func persons() []api.Person {
	return []api.Person{
		{}, {Name: "p"}, {Away: several(1)}, awayAt(several(1)...), awayAt(several(2)...), awayAt(several(15)...), awayAt(several(16)...), awayAt(several(17)...), awayAt(several(300)...), awayAt(mixed()...), awayAt(mixed()[:9]...),
		{Name: strings.Repeat("\xff", 25), Away: []api.When{{}, {}, {}}},
		{Name: strings.Repeat("n", 1<<16), Away: []api.When{at(allWeeks, allDays, math.MinInt, math.MaxInt)}},
		{Name: "\x00\n ", Away: []api.When{on(0, 1), on(0, 1), on(0, 1)}},
	}
}

// The chapter's words once more, by means of their own

func isGrid(g api.Grid) bool {
	return g.Weeks > 0 && g.Weeks < 21 && g.Days > 0 && g.Days < 8 && g.Slots > 0 && g.Slots < 97
}

// isTame tells whether w is one of those that are tame, which are gone through.
func isTame(w api.When) bool {
	for start := range 97 {
		for length := 1; length <= 96; length++ {
			if w.Start == start && w.Len == length {
				return true
			}
		}
	}
	return false
}

// has tells whether a moment is one of w's, which is tame.
func has(w api.When, week, day, slot int) bool {
	return w.Weeks&(1<<week) != 0 && w.Days&(1<<day) != 0 && slot >= w.Start && slot < w.Start+w.Len
}

// isTime tells whether w may be in g: it has moments, and all of them are of the grid.
func isTime(g api.Grid, w api.When) bool {
	return isGrid(g) && isTame(w) && w.Weeks != 0 && w.Days != 0 && w.Weeks < 1<<g.Weeks && int(w.Days) < 1<<g.Days && w.Start+w.Len <= g.Slots
}

func isPerson(g api.Grid, p api.Person) bool {
	for _, w := range p.Away {
		if !isTime(g, w) {
			return false
		}
	}
	return isGrid(g) && p.Name != "" && len(p.Name) < 25 && len(p.Away) < 17
}

// lie tells how two times lie on a day that they share: whether there is such a day, how many slots are both's, and how many are neither's but have one of them on each side.
func lie(a, b api.When) (shared bool, both int, between int) {
	if !isTame(a) || !isTame(b) || a.Weeks&b.Weeks == 0 || a.Days&b.Days == 0 {
		return false, 0, 0
	}
	for slot := range 192 {
		inA, inB := slot >= a.Start && slot < a.Start+a.Len, slot >= b.Start && slot < b.Start+b.Len
		pastA, pastB := slot >= a.Start+a.Len, slot >= b.Start+b.Len
		if inA && inB {
			both++
		}
		if !inA && !inB && pastA != pastB {
			between++
		}
	}
	return true, both, between
}

func reach(a, b api.When, walk int) bool {
	shared, both, between := lie(a, b)
	return !shared || both == 0 && between >= walk
}

func isAway(p api.Person, w api.When) bool {
	for _, away := range p.Away {
		if _, both, _ := lie(w, away); both > 0 {
			return true
		}
	}
	return false
}

// free are the moments of g, one by one, at which p, who may be in it, is not away.
func free(g api.Grid, p api.Person) []int {
	var out []int
	m := 0
	for week := range g.Weeks {
		for day := range g.Days {
			for slot := range g.Slots {
				if !slices.ContainsFunc(p.Away, func(w api.When) bool { return has(w, week, day, slot) }) {
					out = append(out, m)
				}
				m++
			}
		}
	}
	return out
}

// taken are the slots of each day of g that are in some of l, one by one.
func taken(g api.Grid, l []api.When) [][]int {
	var out [][]int
	if !isGrid(g) {
		return out
	}
	l = slices.DeleteFunc(slices.Clone(l), func(w api.When) bool { return !isTime(g, w) })
	for week := range g.Weeks {
		for day := range g.Days {
			var slots []int
			for slot := range g.Slots {
				if slices.ContainsFunc(l, func(w api.When) bool { return has(w, week, day, slot) }) {
					slots = append(slots, slot)
				}
			}
			out = append(out, slots)
		}
	}
	return out
}

// samePerson is not by the rows' own sameness: a nil row and an empty one are the same.
func samePerson(a, b api.Person) bool {
	if len(a.Away) != len(b.Away) {
		return false
	}
	for i := range a.Away {
		if a.Away[i] != b.Away[i] {
			return false
		}
	}
	return a.Name == b.Name
}

func wantRight(t *testing.T, g api.Grid, p api.Person, want bool) {
	t.Helper()
	if got := person.Right(g, p); got != want {
		t.Errorf("Right(%v, %v) = %v", g, p, got)
	}
}

func wantAway(t *testing.T, p api.Person, w api.When, want bool) {
	t.Helper()
	if got := person.Away(p, w); got != want {
		t.Errorf("Away(%v, %v) = %v", p, w, got)
	}
}

// wantReach: both ways round.
func wantReach(t *testing.T, a, b api.When, walk int, want bool) {
	t.Helper()
	there, back := person.Reach(a, b, walk), person.Reach(b, a, walk)
	if there != want || back != want {
		t.Errorf("Reach of %v and %v with a walk of %d is %v, and the other way round %v", a, b, walk, there, back)
	}
}

func wantFree(t *testing.T, g api.Grid, p api.Person, want []int) {
	t.Helper()
	if got := person.Free(g, p); !slices.Equal(got, want) {
		t.Errorf("Free(%v, %v) = %d (%d numbers), want %d (%d numbers)", g, p, got[:min(len(got), 9)], len(got), want[:min(len(want), 9)], len(want))
	}
}

func wantDays(t *testing.T, g api.Grid, l []api.When, busy, spread []int) {
	t.Helper()
	if got := person.Busy(g, l); !slices.Equal(got, busy) {
		t.Errorf("Busy(%v, %v) = %d, want %d", g, l[:min(len(l), 20)], got, busy)
	}
	if got := person.Spread(g, l); !slices.Equal(got, spread) {
		t.Errorf("Spread(%v, %v) = %d, want %d", g, l[:min(len(l), 20)], got, spread)
	}
}

// wantTaken: the days are such as they are slot by slot.
func wantTaken(t *testing.T, g api.Grid, l []api.When) {
	t.Helper()
	var busy, spread []int
	for _, slots := range taken(g, l) {
		busy = append(busy, len(slots))
		if len(slots) == 0 {
			spread = append(spread, 0)
		} else {
			spread = append(spread, slots[len(slots)-1]-slots[0]+1)
		}
	}
	wantDays(t, g, l, busy, spread)
}

func wantLeave(t *testing.T, p api.Person, w api.When, want api.Person, err api.Errno) {
	t.Helper()
	if got, no := person.Leave(p, w); !samePerson(got, want) || no != err {
		t.Errorf("Leave(%v, %v) = %v, %d, want %v, %d", p, w, got, no, want, err)
	}
}

func wantReturn(t *testing.T, p api.Person, w api.When, want api.Person, err api.Errno) {
	t.Helper()
	if got, no := person.Return(p, w); !samePerson(got, want) || no != err {
		t.Errorf("Return(%v, %v) = %v, %d, want %v, %d", p, w, got, no, want, err)
	}
}

// wantSame: both ways round.
func wantSame(t *testing.T, a, b api.Person, want bool) {
	t.Helper()
	if person.Same(a, b) != want || person.Same(b, a) != want {
		t.Errorf("Same of %v and %v is %v, and the other way round %v", a, b, person.Same(a, b), person.Same(b, a))
	}
}

// The chapter's example

func TestExample(t *testing.T) {
	wantReach(t, on(0, 2), on(4, 2), 2, true)
	wantReach(t, on(0, 2), on(4, 2), 3, false)
}

// P12.1: Right

// TestRightName: bytes are counted, whatever they are; neither letters nor runes.
func TestRightName(t *testing.T) {
	for c := range 256 {
		for n := range 60 {
			wantRight(t, grid(1, 1, 1), api.Person{Name: strings.Repeat(string([]byte{byte(c)}), n)}, n >= 1 && n <= 24)
		}
	}
	for _, letter := range []string{"\u00e9", "\u20ac", "\U0001f600", "\xe2\x82", "a\u0301"} {
		for n := range 30 {
			wantRight(t, widest(), api.Person{Name: strings.Repeat(letter, n)}, n >= 1 && n*len(letter) <= 24)
		}
	}
	for _, n := range []int{256, 257, 280, 1 << 16, 1<<16 + 24} {
		wantRight(t, widest(), api.Person{Name: strings.Repeat("a", n)}, false)
	}
	for _, g := range grids() {
		for n := range 60 {
			wantRight(t, g, api.Person{Name: strings.Repeat("n", n), Away: []api.When{on(0, 1)}}, n >= 1 && n <= 24)
		}
	}
}

func TestRightAway(t *testing.T) {
	for n := range 40 {
		wantRight(t, widest(), awayAt(several(n)...), n <= 16)
		wantRight(t, widest(), awayAt(make([]api.When, n)...), n == 0)
		wantRight(t, grid(1, 1, 1), awayAt(slices.Repeat([]api.When{on(0, 1)}, n)...), n <= 16)
	}
	for _, g := range grids() {
		wantRight(t, g, api.Person{Name: "p", Away: nil}, true)
		wantRight(t, g, api.Person{Name: "p", Away: []api.When{}}, true)
		wantRight(t, g, awayAt(always(g)), true)
	}
}

// TestRightByOneAway: one alone, wherever it stands, may not be in the grid.
func TestRightByOneAway(t *testing.T) {
	for _, g := range grids() {
		for _, w := range beside(g) {
			for _, n := range []int{1, 2, 3, 16} {
				for i := range n {
					p := awayAt(slices.Repeat([]api.When{on(0, 1)}, n)...)
					wantRight(t, g, p, true)
					p.Away[i] = w
					wantRight(t, g, p, false)
				}
			}
		}
	}
}

// TestRightByEachTime: of small grids all times that may be, and those beside them.
func TestRightByEachTime(t *testing.T) {
	for _, g := range []api.Grid{grid(1, 1, 1), grid(2, 2, 3), grid(3, 1, 2), grid(1, 3, 2)} {
		for weeks := range uint32(1 << (g.Weeks + 2)) {
			for days := range 1 << (g.Days + 2) {
				for start := -2; start <= g.Slots+2; start++ {
					for length := -2; length <= g.Slots+2; length++ {
						p := awayAt(at(weeks, uint8(days), start, length))
						wantRight(t, g, p, isPerson(g, p))
					}
				}
			}
		}
	}
}

func TestRightInOtherGrids(t *testing.T) {
	chance := rand.New(rand.NewSource(1))
	for _, g := range grids() {
		for range 20 {
			p := somePerson(chance, g)
			wantRight(t, g, p, true)
			for _, other := range slices.Concat(grids(), wrongGrids()) {
				wantRight(t, other, p, isPerson(other, p))
			}
		}
	}
}

func TestRightInWrongGrids(t *testing.T) {
	for _, g := range wrongGrids() {
		for _, p := range slices.Concat(persons(), []api.Person{awayAt(), awayAt(on(0, 1))}) {
			wantRight(t, g, p, false)
		}
	}
}

func TestRightOfAll(t *testing.T) {
	for _, p := range persons() {
		for _, g := range grids() {
			wantRight(t, g, p, isPerson(g, p))
		}
	}
}

// P12.1: Away

// TestAwayByEach: of times of all kinds each two, whether the person may be or not.
func TestAwayByEach(t *testing.T) {
	list := mixed()
	for _, a := range list {
		for _, w := range list {
			_, both, _ := lie(a, w)
			wantAway(t, awayAt(a), w, both > 0)
			wantAway(t, api.Person{Name: strings.Repeat("n", 25), Away: []api.When{a}}, w, both > 0)
		}
	}
}

// TestAwayByOneOfSeveral: wherever it stands.
func TestAwayByOneOfSeveral(t *testing.T) {
	w := at(4, 4, 50, 3)
	for _, n := range []int{1, 2, 3, 16, 17, 300} {
		for i := range n {
			p := awayAt(slices.Repeat([]api.When{at(4, 4, 0, 50)}, n)...)
			wantAway(t, p, w, false)
			p.Away[i] = at(7, 7, 52, 9)
			wantAway(t, p, w, true)
			p.Away[i] = at(7, 7, 53, 9)
			wantAway(t, p, w, false)
		}
	}
}

// TestAwayByNoneAlone: each shares the week, the day or the slots with w, but none shares all of them.
func TestAwayByNoneAlone(t *testing.T) {
	p := awayAt(at(1, 2, 4, 2), at(2, 1, 4, 2), on(0, 4), on(6, 90))
	wantAway(t, p, on(4, 2), false)
	wantAway(t, p, on(3, 2), true)
	wantAway(t, p, on(4, 3), true)
	wantAway(t, p, at(3, 1, 4, 2), true)
	wantAway(t, p, at(1, 3, 4, 2), true)
}

func TestNeverAway(t *testing.T) {
	for _, w := range mixed() {
		wantAway(t, awayAt(), w, false)
		wantAway(t, api.Person{}, w, false)
		wantAway(t, awayAt([]api.When{}...), w, false)
	}
}

func TestAwayOfAll(t *testing.T) {
	for _, p := range persons() {
		for _, w := range mixed() {
			wantAway(t, p, w, isAway(p, w))
		}
	}
	chance := rand.New(rand.NewSource(2))
	for _, g := range grids() {
		for range 200 {
			p, w := somePerson(chance, g), someTime(chance, g)
			wantAway(t, p, w, isAway(p, w))
		}
	}
}

// P12.1: Free

func TestKnownFree(t *testing.T) {
	g := grid(2, 2, 3)
	wantFree(t, g, awayAt(), []int{0, 1, 2, 3, 4, 5, 6, 7, 8, 9, 10, 11})
	wantFree(t, g, awayAt(on(0, 1)), []int{1, 2, 3, 4, 5, 6, 7, 8, 9, 10, 11})
	wantFree(t, g, awayAt(at(3, 2, 1, 2)), []int{0, 1, 2, 3, 6, 7, 8, 9})
	wantFree(t, g, awayAt(at(2, 3, 0, 3)), []int{0, 1, 2, 3, 4, 5})
	wantFree(t, g, awayAt(at(2, 2, 2, 1)), []int{0, 1, 2, 3, 4, 5, 6, 7, 8, 9, 10})
	wantFree(t, g, awayAt(at(3, 3, 0, 3)), nil)
	wantFree(t, g, awayAt(at(3, 3, 0, 2), at(1, 3, 1, 2)), []int{8, 11})
	wantFree(t, g, awayAt(at(3, 3, 0, 1), at(3, 3, 2, 1), at(3, 3, 1, 1)), nil)
	wantFree(t, g, awayAt(at(3, 3, 0, 2), at(3, 3, 0, 2)), []int{2, 5, 8, 11})
	wantFree(t, grid(1, 1, 1), awayAt(), []int{0})
	wantFree(t, grid(1, 1, 1), awayAt(on(0, 1)), nil)
}

func TestFree(t *testing.T) {
	chance := rand.New(rand.NewSource(3))
	for _, g := range grids() {
		list := []api.Person{awayAt(), awayAt([]api.When{}...), awayAt(always(g)), awayAt(on(0, 1), always(g)), awayAt(slices.Repeat([]api.When{on(0, 1)}, 16)...), {Name: strings.Repeat("\x00", 24)}}
		for range 20 {
			list = append(list, somePerson(chance, g))
		}
		for _, p := range list {
			wantFree(t, g, p, free(g, p))
		}
	}
}

// TestFreeOfEach: of small grids each time alone, and each two of them, those that overlap too.
func TestFreeOfEach(t *testing.T) {
	for _, g := range []api.Grid{grid(1, 1, 1), grid(2, 2, 3), grid(1, 1, 6), grid(3, 1, 2), grid(1, 3, 2)} {
		list := times(g)
		for _, a := range list {
			wantFree(t, g, awayAt(a), free(g, awayAt(a)))
			for _, b := range list {
				wantFree(t, g, awayAt(a, b), free(g, awayAt(a, b)))
			}
		}
	}
}

// TestFreeIsNotAway: of each moment of a grid the one or the other.
func TestFreeIsNotAway(t *testing.T) {
	chance := rand.New(rand.NewSource(4))
	for _, g := range []api.Grid{grid(2, 2, 4), grid(3, 5, 10), grid(20, 7, 1)} {
		for range 20 {
			p := somePerson(chance, g)
			told := person.Free(g, p)
			if !slices.IsSorted(told) || len(slices.Compact(slices.Clone(told))) != len(told) {
				t.Errorf("%d do not rise", told)
			}
			m := 0
			for week := range g.Weeks {
				for day := range g.Days {
					for slot := range g.Slots {
						wantAway(t, p, at(1<<week, 1<<day, slot, 1), !slices.Contains(told, m))
						m++
					}
				}
			}
		}
	}
}

func TestFreeOfNoPerson(t *testing.T) {
	for _, g := range grids() {
		for _, w := range beside(g) {
			wantFree(t, g, awayAt(w), nil)
			wantFree(t, g, awayAt(on(0, 1), w), nil)
			wantFree(t, g, awayAt(w, on(0, 1)), nil)
		}
		wantFree(t, g, api.Person{}, nil)
		wantFree(t, g, api.Person{Name: strings.Repeat("n", 25)}, nil)
		wantFree(t, g, awayAt(slices.Repeat([]api.When{on(0, 1)}, 17)...), nil)
	}
	for _, g := range wrongGrids() {
		for _, p := range persons() {
			wantFree(t, g, p, nil)
		}
	}
}

func TestFreeOfAll(t *testing.T) {
	for _, p := range persons() {
		for _, g := range grids() {
			if isPerson(g, p) {
				wantFree(t, g, p, free(g, p))
			} else {
				wantFree(t, g, p, nil)
			}
		}
	}
}

// P12.1: Same

func TestSame(t *testing.T) {
	list := persons()
	for i, a := range list {
		for j, b := range list {
			wantSame(t, a, b, i == j)
		}
		wantSame(t, a, api.Person{Name: strings.Clone(a.Name), Away: roomy(a.Away)}, true)
	}
}

// TestSameByOneAlone: in all else they are the same.
func TestSameByOneAlone(t *testing.T) {
	for _, a := range persons() {
		for _, change := range []func(*api.Person){
			func(p *api.Person) { p.Name += "x" },
			func(p *api.Person) { p.Name += "\x00" },
			func(p *api.Person) { p.Away = append(slices.Clone(p.Away), api.When{}) },
			func(p *api.Person) { p.Away = append(slices.Clone(p.Away), on(0, 1)) },
			func(p *api.Person) { p.Away = append([]api.When{at(9, 9, 9, 9)}, p.Away...) },
		} {
			b := a
			change(&b)
			wantSame(t, a, b, false)
		}
	}
	wantSame(t, api.Person{Name: "p"}, api.Person{Name: "P"}, false)
	wantSame(t, api.Person{Name: "p"}, api.Person{Name: "q"}, false)
}

func TestSameByOneAway(t *testing.T) {
	for _, n := range []int{1, 2, 3, 16, 17, 100} {
		a := awayAt(several(n)...)
		for i := range n {
			for _, change := range []func(*api.When){
				func(w *api.When) { w.Weeks ^= 1 << 31 },
				func(w *api.When) { w.Days ^= 1 << 7 },
				func(w *api.When) { w.Start++ },
				func(w *api.When) { w.Start += 1 << 32 },
				func(w *api.When) { w.Len++ },
				func(w *api.When) { w.Len -= 1 << 32 },
			} {
				b := awayAt(several(n)...)
				wantSame(t, a, b, true)
				change(&b.Away[i])
				wantSame(t, a, b, false)
			}
		}
		wantSame(t, a, awayAt(a.Away[:n-1]...), false)
		wantSame(t, a, awayAt(a.Away[1:]...), false)
	}
}

// TestSameByOrder: the same times, but in another order; or as often, but not the same ones.
func TestSameByOrder(t *testing.T) {
	a, b, c := on(0, 1), on(1, 1), at(2, 1, 0, 1)
	wantSame(t, awayAt(a, b), awayAt(b, a), false)
	wantSame(t, awayAt(a, b, c), awayAt(b, c, a), false)
	wantSame(t, awayAt(a, a, b), awayAt(a, b, b), false)
	wantSame(t, awayAt(a, a), awayAt(a), false)
	wantSame(t, awayAt(a, b, c), awayAt(a, b, c), true)
	// They are at the same moments, but not the same times.
	wantSame(t, awayAt(on(0, 2)), awayAt(on(0, 1), on(1, 1)), false)
	wantSame(t, awayAt(at(0, 1, 0, 1)), awayAt(at(1, 0, 0, 1)), false)
	wantSame(t, awayAt(at(0, 1, 0, 1)), awayAt(), false)
}

func TestSameOfNilAndEmpty(t *testing.T) {
	none, empty := api.Person{Name: "p"}, api.Person{Name: "p", Away: []api.When{}}
	spare := api.Person{Name: "p", Away: roomy(nil)}
	wantSame(t, none, empty, true)
	wantSame(t, none, spare, true)
	wantSame(t, empty, spare, true)
	wantSame(t, api.Person{}, api.Person{}, true)
}

// P12.2, P12.5: Reach

// strides are walks at the gaps that times of a day can have, at 0, and over the int's whole range.
func strides() []int {
	return []int{math.MinInt, math.MinInt + 1, -1 << 32, math.MinInt32, -97, -96, -2, -1, 0, 1, 2, 3, 4, 48, 93, 94, 95, 96, 97, 192, math.MaxInt32, 1 << 32, 1<<32 + 1, math.MaxInt - 1, math.MaxInt}
}

// TestReachByGap: whichever walk, of times with each gap that a day has room for.
func TestReachByGap(t *testing.T) {
	for gap := range 95 {
		a, b := on(0, 1), on(1+gap, 1)
		for _, walk := range slices.Concat(strides(), []int{gap - 1, gap, gap + 1, gap - 1<<32, gap + 1<<32}) {
			wantReach(t, a, b, walk, walk <= gap)
			wantReach(t, at(5, 9, 0, 1), at(12, 3, 1+gap, 96), walk, walk <= gap)
		}
	}
}

// TestReachOfTouching: one begins where the other ends.
func TestReachOfTouching(t *testing.T) {
	for start := 1; start <= 96; start++ {
		for _, length := range []int{1, 2, 95, 96} {
			for _, walk := range strides() {
				wantReach(t, on(0, start), on(start, length), walk, walk <= 0)
			}
		}
	}
}

// TestReachOfMeeting: those who meet are reached with no walk at all, below 0 neither.
func TestReachOfMeeting(t *testing.T) {
	for _, walk := range strides() {
		for _, pair := range [][2]api.When{
			{on(0, 1), on(0, 1)}, {on(0, 2), on(1, 2)}, {on(0, 96), on(95, 1)}, {on(3, 9), on(5, 2)}, {at(7, 7, 0, 2), at(4, 4, 1, 2)},
			{at(allWeeks, allDays, 96, 96), at(allWeeks, allDays, 96, 1)}, {at(1<<31, 1<<7, 96, 1), at(1<<31, 1<<7, 95, 2)},
		} {
			wantReach(t, pair[0], pair[1], walk, false)
		}
	}
}

// TestReachOnOtherDays: whatever their slots are, of times that share no week, or no day.
func TestReachOnOtherDays(t *testing.T) {
	for _, walk := range strides() {
		for _, slots := range [][2]int{{0, 1}, {0, 96}, {1, 1}, {2, 1}, {5, 3}, {95, 1}, {96, 96}} {
			w := at(5, 9, 0, 2)
			wantReach(t, w, at(10, 9, slots[0], slots[1]), walk, true)
			wantReach(t, w, at(5, 6, slots[0], slots[1]), walk, true)
			wantReach(t, w, at(10, 6, slots[0], slots[1]), walk, true)
			wantReach(t, w, at(0, 9, slots[0], slots[1]), walk, true)
			wantReach(t, w, at(5, 0, slots[0], slots[1]), walk, true)
		}
	}
}

// TestReachOfWildTimes: one that is not tame shares nothing, with itself neither.
func TestReachOfWildTimes(t *testing.T) {
	for _, a := range mixed() {
		if isTame(a) {
			continue
		}
		for _, walk := range strides() {
			for _, b := range mixed() {
				wantReach(t, a, b, walk, true)
			}
		}
	}
}

// TestReachByEach: of times of all kinds each two.
func TestReachByEach(t *testing.T) {
	list := mixed()
	for _, a := range list {
		for _, b := range list {
			for _, walk := range strides() {
				wantReach(t, a, b, walk, reach(a, b, walk))
			}
		}
	}
	for _, g := range []api.Grid{grid(2, 2, 3), grid(1, 1, 7), grid(3, 1, 2), grid(1, 3, 2)} {
		list := times(g)
		for _, a := range list {
			for _, b := range list {
				for walk := -1; walk <= g.Slots; walk++ {
					wantReach(t, a, b, walk, reach(a, b, walk))
				}
			}
		}
	}
}

func TestReachOfSome(t *testing.T) {
	chance := rand.New(rand.NewSource(5))
	for _, g := range grids() {
		for range 300 {
			a, b, walk := shortTime(chance, g), shortTime(chance, g), chance.Intn(100)-2
			wantReach(t, a, b, walk, reach(a, b, walk))
		}
	}
}

// P12.3: Busy, Spread

// zeros are the days of g, of which each has nothing.
func zeros(g api.Grid) []int { return make([]int, g.Weeks*g.Days) }

func TestKnownDays(t *testing.T) {
	g := grid(2, 3, 10)
	wantDays(t, g, []api.When{on(2, 3)}, []int{3, 0, 0, 0, 0, 0}, []int{3, 0, 0, 0, 0, 0})
	wantDays(t, g, []api.When{at(2, 5, 2, 3)}, []int{0, 0, 0, 3, 0, 3}, []int{0, 0, 0, 3, 0, 3})
	wantDays(t, g, []api.When{at(3, 2, 0, 1), at(1, 6, 9, 1)}, []int{0, 2, 1, 0, 1, 0}, []int{0, 10, 1, 0, 1, 0})
	wantDays(t, g, []api.When{at(3, 7, 0, 10)}, []int{10, 10, 10, 10, 10, 10}, []int{10, 10, 10, 10, 10, 10})
}

// TestKnownDay: in a grid of one day.
func TestKnownDay(t *testing.T) {
	for _, c := range []struct {
		l            []api.When
		busy, spread int
	}{
		{nil, 0, 0},
		{[]api.When{}, 0, 0},
		{[]api.When{on(0, 1)}, 1, 1},
		{[]api.When{on(9, 1)}, 1, 1},
		{[]api.When{on(0, 10)}, 10, 10},
		{[]api.When{on(0, 1), on(9, 1)}, 2, 10},
		{[]api.When{on(9, 1), on(0, 1)}, 2, 10},
		{[]api.When{on(3, 4), on(3, 4)}, 4, 4},
		{[]api.When{on(3, 4), on(3, 2)}, 4, 4},
		{[]api.When{on(3, 2), on(3, 4)}, 4, 4},
		{[]api.When{on(3, 4), on(5, 4)}, 6, 6},
		{[]api.When{on(5, 4), on(3, 4)}, 6, 6},
		{[]api.When{on(2, 7), on(4, 2)}, 7, 7},
		{[]api.When{on(4, 2), on(2, 7)}, 7, 7},
		{[]api.When{on(3, 2), on(5, 2)}, 4, 4},
		{[]api.When{on(5, 2), on(3, 2)}, 4, 4},
		{[]api.When{on(3, 2), on(6, 2)}, 4, 5},
		{[]api.When{on(6, 2), on(3, 2)}, 4, 5},
		{[]api.When{on(1, 1), on(3, 1), on(5, 1), on(7, 1)}, 4, 7},
		{[]api.When{on(1, 1), on(7, 1), on(3, 3)}, 5, 7},
		{[]api.When{on(1, 7), on(2, 1), on(9, 1)}, 8, 9},
		{[]api.When{on(0, 11), on(3, 1), at(2, 1, 0, 1), at(1, 2, 9, 1), on(5, 0), on(7, -1)}, 1, 1},
		{[]api.When{{}, on(10, 1), on(-1, 2)}, 0, 0},
	} {
		wantDays(t, grid(1, 1, 10), c.l, []int{c.busy}, []int{c.spread})
	}
}

// TestDaysOfOneTime: on its days as long as it is, on others nothing.
func TestDaysOfOneTime(t *testing.T) {
	for _, g := range grids() {
		for week := range g.Weeks {
			for day := range g.Days {
				for _, slots := range [][2]int{{0, 1}, {g.Slots - 1, 1}, {0, g.Slots}} {
					w := at(1<<week, 1<<day, slots[0], slots[1])
					want := zeros(g)
					want[week*g.Days+day] = slots[1]
					wantDays(t, g, []api.When{w}, want, want)
					wantDays(t, g, []api.When{w, w}, want, want)
				}
			}
		}
		want := slices.Repeat([]int{g.Slots}, g.Weeks*g.Days)
		wantDays(t, g, []api.When{always(g)}, want, want)
		wantDays(t, g, []api.When{on(0, 1), always(g), on(g.Slots-1, 1)}, want, want)
	}
}

func TestDaysOfNoTime(t *testing.T) {
	for _, g := range grids() {
		for _, l := range [][]api.When{nil, {}, roomy(nil), beside(g)} {
			wantDays(t, g, l, zeros(g), zeros(g))
		}
	}
}

func TestDaysOfWrongGrids(t *testing.T) {
	for _, g := range wrongGrids() {
		for _, l := range [][]api.When{nil, {}, {on(0, 1)}, several(20), mixed()} {
			wantDays(t, g, l, nil, nil)
		}
	}
}

// TestDaysWithoutWrongTimes: those that may not be in the grid stand at each place, and count nothing.
func TestDaysWithoutWrongTimes(t *testing.T) {
	for _, g := range grids() {
		rights := []api.When{on(g.Slots/2, 1), on(0, 1), on(g.Slots-1, 1)}
		busy, spread := person.Busy(g, rights), person.Spread(g, rights)
		for _, w := range beside(g) {
			for place := range len(rights) + 1 {
				l := slices.Insert(slices.Clone(rights), place, w)
				wantDays(t, g, l, busy, spread)
			}
		}
		wantTaken(t, g, rights)
	}
}

// TestDaysOfEach: of small grids each time, each two of them, and of one day each three, in each order.
func TestDaysOfEach(t *testing.T) {
	for _, g := range []api.Grid{grid(1, 1, 1), grid(2, 2, 3), grid(1, 1, 7), grid(3, 1, 2), grid(1, 3, 2)} {
		list := times(g)
		for _, a := range list {
			wantTaken(t, g, []api.When{a})
			for _, b := range list {
				wantTaken(t, g, []api.When{a, b})
			}
		}
	}
	g := grid(1, 1, 6)
	list := times(g)
	for _, a := range list {
		for _, b := range list {
			for _, c := range list {
				wantTaken(t, g, []api.When{a, b, c})
			}
		}
	}
}

func TestDaysOfMixed(t *testing.T) {
	for _, g := range grids() {
		wantTaken(t, g, mixed())
		wantTaken(t, g, several(300))
		wantTaken(t, g, slices.Concat(mixed(), several(40), mixed()))
	}
}

func TestDaysOfSome(t *testing.T) {
	chance := rand.New(rand.NewSource(6))
	for _, g := range grids() {
		for n := range 24 {
			var l []api.When
			for range n {
				l = append(l, shortTime(chance, g))
			}
			if n%4 == 3 {
				l = append(l, someTime(chance, g), beside(g)[chance.Intn(20)])
			}
			wantTaken(t, g, l)
		}
	}
}

// TestDaysInAnyOrder: how the times stand in the row changes nothing.
func TestDaysInAnyOrder(t *testing.T) {
	chance := rand.New(rand.NewSource(7))
	for _, g := range grids() {
		var l []api.When
		for range 12 {
			l = append(l, shortTime(chance, g))
		}
		busy, spread := person.Busy(g, l), person.Spread(g, l)
		for range 30 {
			chance.Shuffle(len(l), func(i, j int) { l[i], l[j] = l[j], l[i] })
			wantDays(t, g, l, busy, spread)
		}
	}
}

// TestDaysOfMore: one number a day; none busier than it is long, none longer than the grid's; and a time more makes none less.
func TestDaysOfMore(t *testing.T) {
	chance := rand.New(rand.NewSource(8))
	for _, g := range grids() {
		for range 5 {
			var l []api.When
			wasBusy, wasSpread := zeros(g), zeros(g)
			for range 20 {
				l = append(l, shortTime(chance, g))
				busy, spread := person.Busy(g, l), person.Spread(g, l)
				if len(busy) != g.Weeks*g.Days || len(spread) != g.Weeks*g.Days {
					t.Fatalf("in %v there are %d and %d numbers", g, len(busy), len(spread))
				}
				for day := range busy {
					if busy[day] < wasBusy[day] || spread[day] < wasSpread[day] {
						t.Errorf("in %v of %v: day %d had %d and %d, and with one time more has %d and %d", g, l, day, wasBusy[day], wasSpread[day], busy[day], spread[day])
					}
					if busy[day] > spread[day] || spread[day] > g.Slots || (busy[day] == 0) != (spread[day] == 0) {
						t.Errorf("in %v of %v: day %d has %d and %d", g, l, day, busy[day], spread[day])
					}
				}
				wasBusy, wasSpread = busy, spread
			}
		}
	}
}

// TestDaysOfVeryMany: far more times than a day has slots.
func TestDaysOfVeryMany(t *testing.T) {
	g := widest()
	l := slices.Repeat([]api.When{always(g), {}, on(3, 1), at(1<<20-1, 127, 90, 6)}, 2500)
	want := slices.Repeat([]int{96}, 140)
	wantDays(t, g, l, want, want)
}

// P12.4: Leave

// left is p with w behind their Away, laid by hand.
func left(p api.Person, w api.When) api.Person {
	away := make([]api.When, len(p.Away)+1)
	for i := range p.Away {
		away[i] = p.Away[i]
	}
	away[len(p.Away)] = w
	return api.Person{Name: p.Name, Away: away}
}

// TestLeave: whether the person, or the time, may be or not.
func TestLeave(t *testing.T) {
	for _, p := range persons() {
		for _, w := range slices.Concat(mixed(), p.Away) {
			if len(p.Away) >= 16 {
				wantLeave(t, p, w, api.Person{}, api.ErrFull)
			} else {
				wantLeave(t, p, w, left(p, w), api.OK)
			}
		}
	}
}

func TestLeaveUntilItIsFull(t *testing.T) {
	p := api.Person{Name: "someone"}
	for i, w := range several(16) {
		next, err := person.Leave(p, w)
		if err != api.OK || !samePerson(next, api.Person{Name: "someone", Away: several(i + 1)}) {
			t.Fatalf("Leave(%v, %v) = %v, %d", p, w, next, err)
		}
		p = next
	}
	wantLeave(t, p, on(0, 1), api.Person{}, api.ErrFull)
	for n := range 30 {
		full := awayAt(several(16 + n)...)
		wantLeave(t, full, on(0, 1), api.Person{}, api.ErrFull)
		wantLeave(t, full, full.Away[0], api.Person{}, api.ErrFull)
	}
}

// TestLeaveWhereTheyAreAway: w is there already, and stands behind all the same.
func TestLeaveWhereTheyAreAway(t *testing.T) {
	a, b := on(0, 1), on(1, 1)
	wantLeave(t, awayAt(a, b), a, awayAt(a, b, a), api.OK)
	wantLeave(t, awayAt(a), a, awayAt(a, a), api.OK)
	wantLeave(t, awayAt(), api.When{}, awayAt(api.When{}), api.OK)
}

// P12.4: Return

// returned is p without the one of their Away that stands there, laid by hand.
func returned(p api.Person, place int) api.Person {
	var away []api.When
	for i, w := range p.Away {
		if i != place {
			away = append(away, w)
		}
	}
	return api.Person{Name: p.Name, Away: away}
}

// TestReturn: whether the person, or the time, may be or not.
func TestReturn(t *testing.T) {
	for _, p := range persons() {
		first := map[api.When]int{}
		for i := len(p.Away) - 1; i >= 0; i-- {
			first[p.Away[i]] = i
		}
		for _, w := range slices.Concat(mixed(), p.Away) {
			if i, ok := first[w]; ok {
				wantReturn(t, p, w, returned(p, i), api.OK)
			} else {
				wantReturn(t, p, w, api.Person{}, api.ErrNone)
			}
		}
	}
}

func TestReturnOfOne(t *testing.T) {
	a, b, c, none := on(0, 1), on(1, 1), at(2, 1, 0, 1), at(2, 1, 1, 1)
	wantReturn(t, awayAt(a), a, awayAt(), api.OK)
	wantReturn(t, awayAt(a, b, c), a, awayAt(b, c), api.OK)
	wantReturn(t, awayAt(a, b, c), b, awayAt(a, c), api.OK)
	wantReturn(t, awayAt(a, b, c), c, awayAt(a, b), api.OK)
	wantReturn(t, awayAt(a, b, c), none, api.Person{}, api.ErrNone)
	wantReturn(t, awayAt(), none, api.Person{}, api.ErrNone)
	wantReturn(t, awayAt([]api.When{}...), none, api.Person{}, api.ErrNone)
	wantReturn(t, api.Person{}, api.When{}, api.Person{}, api.ErrNone)
}

// TestReturnOfTwo: of one that is there twice the first goes, and the other stays.
func TestReturnOfTwo(t *testing.T) {
	a, b, c := on(0, 1), on(1, 1), at(2, 1, 0, 1)
	wantReturn(t, awayAt(a, b, a, c), a, awayAt(b, a, c), api.OK)
	wantReturn(t, awayAt(b, a, c, a), a, awayAt(b, c, a), api.OK)
	wantReturn(t, awayAt(a, a, b), a, awayAt(a, b), api.OK)
	wantReturn(t, awayAt(b, a, a), a, awayAt(b, a), api.OK)
	wantReturn(t, awayAt(a, a, a), a, awayAt(a, a), api.OK)
}

// TestReturnOfLikeOnes: they meet, or cover one another, but none is that time.
func TestReturnOfLikeOnes(t *testing.T) {
	w := at(3, 3, 4, 4)
	for _, like := range []api.When{at(1, 3, 4, 4), at(3, 1, 4, 4), at(3, 3, 4, 3), at(3, 3, 5, 3), at(3, 3, 3, 4), at(7, 3, 4, 4), at(3, 7, 4, 4), at(3, 3, 4+1<<32, 4), at(3, 3, 4, 4+1<<32), at(3, 3, 3, 6), {}} {
		wantReturn(t, awayAt(w), like, api.Person{}, api.ErrNone)
		wantReturn(t, awayAt(like), w, api.Person{}, api.ErrNone)
		wantReturn(t, awayAt(like, w), w, awayAt(like), api.OK)
	}
}

func TestReturnUntilNoneIsLeft(t *testing.T) {
	for _, n := range []int{1, 2, 16, 17, 300} {
		p := awayAt(several(n)...)
		for i := range n {
			next, err := person.Return(p, p.Away[0])
			if err != api.OK || !samePerson(next, awayAt(several(n)[i+1:]...)) {
				t.Fatalf("Return(%v, %v) = %v, %d", p, p.Away[0], next, err)
			}
			p = next
		}
		wantReturn(t, p, several(1)[0], api.Person{}, api.ErrNone)
	}
}

// TestReturnOfLeave: the person is as they were, if they were not away at w; else the first w is gone, and one stands behind.
func TestReturnOfLeave(t *testing.T) {
	for _, p := range persons() {
		for _, w := range slices.Concat(mixed(), p.Away) {
			if len(p.Away) >= 16 {
				continue
			}
			gone, err := person.Leave(p, w)
			if err != api.OK {
				t.Fatalf("Leave(%v, %v) is refused: %d", p, w, err)
			}
			want := p
			if i := slices.Index(p.Away, w); i >= 0 {
				want = returned(gone, i)
			}
			wantReturn(t, gone, w, want, api.OK)
		}
	}
}

// TestZeroPersonWithAnError: not one field is that of the person.
func TestZeroPersonWithAnError(t *testing.T) {
	full := awayAt(several(16)...)
	if got, err := person.Leave(full, at(9, 9, 9, 9)); err != api.ErrFull || got.Name != "" || len(got.Away) != 0 {
		t.Errorf("Leave of someone who is away 16 times is %v, %d", got, err)
	}
	if got, err := person.Return(full, at(9, 9, 9, 9)); err != api.ErrNone || got.Name != "" || len(got.Away) != 0 {
		t.Errorf("Return at no time is %v, %d", got, err)
	}
}

// R4, R6: what is handed in stays, what is handed out is new, and the same again

// shared are all rows that a call could share with its person: with spare room, and without.
func shared() [][]api.When {
	var out [][]api.When
	for _, n := range []int{0, 1, 2, 3, 14, 15, 16, 17} {
		out = append(out, several(n), slices.Clip(several(n)), roomy(several(n)))
	}
	return out
}

func TestPersonsAreNotChanged(t *testing.T) {
	g := widest()
	for _, away := range shared() {
		p := awayAt(away...)
		was, all := p, whole(away)
		for _, w := range slices.Concat(several(17), []api.When{{}, on(0, 1)}) {
			person.Right(g, p)
			person.Away(p, w)
			person.Free(g, p)
			person.Leave(p, w)
			person.Return(p, w)
			person.Same(p, was)
			if !samePerson(p, was) || !slices.Equal(whole(away), all) {
				t.Fatalf("with %v the person is another one: %v, %v", w, p, whole(away))
			}
		}
	}
}

// TestTimesAreNotChanged: they stand in no order, some of them may not be, and all stay where they are.
func TestTimesAreNotChanged(t *testing.T) {
	l := slices.Concat(mixed(), several(99))
	slices.Reverse(l)
	for _, row := range append(shared(), l, slices.Clip(l), roomy(l), l[:50]) {
		all := whole(row)
		for _, g := range append(grids(), api.Grid{}) {
			person.Busy(g, row)
			person.Spread(g, row)
			if !slices.Equal(whole(row), all) {
				t.Fatalf("in %v the times %v are others: %v", g, all, whole(row))
			}
		}
	}
}

// TestPersonsAreNotShared: whoever changes an answer changes neither the person who was handed in nor another answer; nor the other way round.
func TestPersonsAreNotShared(t *testing.T) {
	for _, away := range shared() {
		p, all := awayAt(away...), whole(away)
		for _, w := range several(17) {
			for _, call := range []func(api.Person, api.When) (api.Person, api.Errno){person.Leave, person.Return} {
				one, _ := call(p, w)
				two, _ := call(p, w)
				want := whole(two.Away)
				clear(one.Away[:cap(one.Away)])
				if !slices.Equal(whole(away), all) || !slices.Equal(whole(two.Away), want) {
					t.Fatalf("with %v: a person is changed with another one", w)
				}
				clear(away[:cap(away)])
				if !slices.Equal(whole(two.Away), want) {
					t.Fatalf("with %v: the answer is changed with the person", w)
				}
				copy(away[:cap(away)], all)
			}
		}
	}
}

// TestRowsAreNew: each answer is the same, when the one ahead is changed.
func TestRowsAreNew(t *testing.T) {
	g := grid(3, 5, 10)
	l := []api.When{at(7, 31, 2, 5), on(0, 1)}
	for _, call := range []func() []int{
		func() []int { return person.Free(g, awayAt(l...)) },
		func() []int { return person.Busy(g, l) },
		func() []int { return person.Spread(g, l) },
	} {
		one, two := call(), call()
		want := slices.Clone(two)
		clear(one[:cap(one)])
		if len(want) == 0 || !slices.Equal(two, want) || !slices.Equal(call(), want) {
			t.Errorf("the row is %d, when the one ahead is changed, and was %d", two, want)
		}
	}
}

// TestAgain: what was asked ahead changes no answer.
func TestAgain(t *testing.T) {
	g := grid(2, 2, 4)
	for range 3 {
		wantRight(t, g, awayAt(on(0, 1)), true)
		wantRight(t, g, awayAt(at(4, 1, 0, 1)), false)
		wantAway(t, awayAt(on(0, 1)), on(0, 2), true)
		wantReach(t, on(0, 1), on(3, 1), 2, true)
		wantReach(t, on(0, 1), on(3, 1), 3, false)
		wantFree(t, g, awayAt(at(3, 3, 1, 3)), []int{0, 4, 8, 12})
		wantFree(t, g, api.Person{}, nil)
		wantDays(t, g, []api.When{at(2, 3, 0, 1), at(2, 2, 2, 2)}, []int{0, 0, 1, 3}, []int{0, 0, 1, 4})
		wantDays(t, api.Grid{}, []api.When{on(0, 1)}, nil, nil)
		wantLeave(t, awayAt(), on(0, 1), awayAt(on(0, 1)), api.OK)
		wantLeave(t, awayAt(several(16)...), on(0, 1), api.Person{}, api.ErrFull)
		wantReturn(t, awayAt(several(2)...), several(1)[0], awayAt(several(2)[1]), api.OK)
		wantReturn(t, awayAt(), on(0, 1), api.Person{}, api.ErrNone)
		wantSame(t, awayAt(), awayAt(), true)
	}
}
