package when_test

import (
	"math"
	"math/rand"
	"slices"
	"testing"

	"horarium/api"
	"horarium/when"
)

const (
	allWeeks = math.MaxUint32
	topWeek  = 1 << 31
	allDays  = math.MaxUint8
	topDay   = 1 << 7
)

// wild are numbers that neither a grid nor a time may have, over the int's whole range; those among them that are about 2^32 look well if they are cut short.
func wild() []int {
	return []int{math.MinInt, math.MinInt + 1, math.MinInt + 96, math.MinInt32, -1 << 32, -1<<32 + 1, -97, -96, -2, -1, 98, 192, 256, 257, math.MaxInt32, 1 << 32, 1<<32 + 1, 1<<62 + 1, math.MaxInt - 96, math.MaxInt - 1, math.MaxInt}
}

func grid(weeks, days, slots int) api.Grid {
	return api.Grid{Weeks: weeks, Days: days, Slots: slots}
}

func at(weeks uint32, days uint8, start, length int) api.When {
	return api.When{Weeks: weeks, Days: days, Start: start, Len: length}
}

// grids are some that may be, the least and the greatest ones among them.
func grids() []api.Grid {
	return []api.Grid{grid(1, 1, 1), grid(1, 1, 2), grid(1, 2, 1), grid(2, 1, 1), grid(2, 2, 4), grid(3, 5, 10), grid(4, 6, 7), grid(5, 3, 8), grid(20, 1, 1), grid(1, 7, 1), grid(1, 1, 96), grid(20, 7, 1), grid(20, 1, 96), grid(1, 7, 96), grid(19, 6, 95), grid(20, 7, 96)}
}

// wrongGrids are some that may not be, by one number alone or by several.
func wrongGrids() []api.Grid {
	out := []api.Grid{{}, grid(21, 8, 97), grid(-1, -1, -1), grid(-1, -1, 96), grid(7, 20, 96), grid(20, 96, 7), grid(96, 7, 20), grid(math.MaxInt, math.MaxInt, math.MaxInt), grid(math.MinInt, math.MinInt, math.MinInt)}
	for _, n := range append(wild(), 0, 97) {
		out = append(out, grid(n, 7, 96), grid(20, n, 96), grid(20, 7, n), grid(n, 1, 1), grid(1, n, 1), grid(1, 1, n))
	}
	return append(out, grid(21, 7, 96), grid(20, 8, 96), grid(21, 1, 1), grid(1, 8, 1))
}

// tame are times that are tame; some may be in the grids, some in none.
func tame() []api.When {
	out := []api.When{}
	for _, slots := range [][2]int{{0, 1}, {0, 2}, {1, 1}, {1, 2}, {2, 2}, {3, 4}, {4, 1}, {0, 10}, {8, 2}, {10, 5}, {0, 96}, {95, 1}, {1, 96}, {96, 1}, {50, 96}, {96, 96}} {
		for _, weeks := range []uint32{1, 2, 6, 1 << 19, 1<<20 - 1, 1 << 20, topWeek, allWeeks} {
			out = append(out, at(weeks, 1, slots[0], slots[1]), at(weeks, 6, slots[0], slots[1]))
		}
		for _, days := range []uint8{3, 1 << 6, 127, topDay, allDays} {
			out = append(out, at(1, days, slots[0], slots[1]), at(7, days, slots[0], slots[1]))
		}
	}
	return out
}

// empty are tame times without weeks, without days, or without both.
func empty() []api.When {
	return []api.When{at(0, 1, 0, 1), at(1, 0, 0, 1), at(0, 0, 0, 1), at(0, 127, 0, 96), at(1<<20-1, 0, 0, 96), at(0, allDays, 96, 96), at(allWeeks, 0, 96, 96), at(0, 0, 96, 96)}
}

// untame are times that are not tame; all else would do.
func untame() []api.When {
	out := []api.When{{}, at(1, 1, 0, 0), at(allWeeks, allDays, 0, 0), at(1, 1, 97, 1), at(1, 1, 0, 97), at(allWeeks, allDays, 97, 97), at(allWeeks, allDays, 96, 0), at(allWeeks, allDays, math.MaxInt, math.MaxInt), at(allWeeks, allDays, math.MinInt, math.MinInt), at(allWeeks, allDays, math.MinInt, math.MaxInt), at(allWeeks, allDays, math.MaxInt, math.MinInt)}
	for _, n := range append(wild(), 97) {
		out = append(out, at(1, 1, n, 1), at(1, 1, 0, n), at(allWeeks, allDays, n, 96), at(allWeeks, allDays, 96, n))
	}
	return append(out, at(allWeeks, allDays, 0, 0), at(allWeeks, allDays, -1, 2), at(allWeeks, allDays, 5, -1))
}

func all() []api.When {
	return slices.Concat(tame(), empty(), untame())
}

// times are all Whens that may be in g.
func times(g api.Grid) []api.When {
	out := []api.When{}
	for weeks := uint32(1); weeks < 1<<g.Weeks; weeks++ {
		for days := 1; days < 1<<g.Days; days++ {
			for start := range g.Slots {
				for length := 1; start+length <= g.Slots; length++ {
					out = append(out, at(weeks, uint8(days), start, length))
				}
			}
		}
	}
	return out
}

// someTime is one that may be in g, by chance.
func someTime(chance *rand.Rand, g api.Grid) api.When {
	length := 1 + chance.Intn(g.Slots)
	return api.When{
		Weeks: 1 + uint32(chance.Intn(1<<g.Weeks-1)),
		Days:  uint8(1 + chance.Intn(1<<g.Days-1)),
		Start: chance.Intn(g.Slots - length + 1),
		Len:   length,
	}
}

// The chapter's words once more, by means of their own

// cell is a moment.
type cell struct{ week, day, slot int }

// cells are the moments of a grid that may be; the place of one is its number.
func cells(g api.Grid) []cell {
	var out []cell
	for week := range g.Weeks {
		for day := range g.Days {
			for slot := range g.Slots {
				out = append(out, cell{week, day, slot})
			}
		}
	}
	return out
}

// parts are the weeks, the days and the slots that a time has, one by one.
type parts struct {
	weeks [32]bool
	days  [8]bool
	slots [192]bool
}

// isTame tells whether w is one of those that are tame, which are gone through.
func isTame(w api.When) bool {
	for start := range 97 {
		for length := 1; length <= 96; length++ {
			if w.Start == start && w.Len == length {
				return true
			}
		}
	}
	return false
}

// partsOf: of one that is not tame there are none.
func partsOf(w api.When) *parts {
	out := &parts{}
	if !isTame(w) {
		return out
	}
	for i := range out.weeks {
		out.weeks[i] = w.Weeks/(1<<i)%2 == 1
	}
	for i := range out.days {
		out.days[i] = w.Days/(1<<i)%2 == 1
	}
	for i := range w.Len {
		out.slots[w.Start+i] = true
	}
	return out
}

// common is what is in both; it is no less than what is in a, if all of a is in b.
func common(a, b *parts) *parts {
	out := &parts{}
	for i := range a.weeks {
		out.weeks[i] = a.weeks[i] && b.weeks[i]
	}
	for i := range a.days {
		out.days[i] = a.days[i] && b.days[i]
	}
	for i := range a.slots {
		out.slots[i] = a.slots[i] && b.slots[i]
	}
	return out
}

// count: how many of them hold.
func count(l []bool) int {
	n := 0
	for _, ok := range l {
		if ok {
			n++
		}
	}
	return n
}

func (p *parts) moments() int { return count(p.weeks[:]) * count(p.days[:]) * count(p.slots[:]) }

func (p *parts) day() bool { return count(p.weeks[:]) > 0 && count(p.days[:]) > 0 }

// between: how many slots have, on one side, one of a, on the other side one of b, and none of either in their place.
func between(a, b *parts) int {
	n := 0
	for i := range a.slots {
		ahead := func(p *parts) bool { return count(p.slots[:i]) > 0 }
		behind := func(p *parts) bool { return count(p.slots[i:]) > 0 }
		if !a.slots[i] && !b.slots[i] && (ahead(a) && behind(b) || ahead(b) && behind(a)) {
			n++
		}
	}
	return n
}

// whole is the time whose parts are p, which has some of all.
func whole(p *parts) api.When {
	w := api.When{Start: slices.Index(p.slots[:], true), Len: count(p.slots[:])}
	for i, ok := range p.weeks {
		if ok {
			w.Weeks += 1 << i
		}
	}
	for i, ok := range p.days {
		if ok {
			w.Days += 1 << i
		}
	}
	return w
}

// numbers are those of the moments of w in g, both of which may be.
func numbers(g api.Grid, w api.When) []int {
	var out []int
	p := partsOf(w)
	for m, c := range cells(g) {
		if p.weeks[c.week] && p.days[c.day] && p.slots[c.slot] {
			out = append(out, m)
		}
	}
	return out
}

func wantRight(t *testing.T, g api.Grid, w api.When, want bool) {
	t.Helper()
	if got := when.Right(g, w); got != want {
		t.Errorf("Right(%v, %v) = %v", g, w, got)
	}
}

func wantMoment(t *testing.T, g api.Grid, c cell, want int) {
	t.Helper()
	if got := when.Moment(g, c.week, c.day, c.slot); got != want {
		t.Errorf("Moment(%v, %v) = %d, want %d", g, c, got, want)
	}
}

func wantOf(t *testing.T, g api.Grid, m int, want cell, there bool) {
	t.Helper()
	week, day, slot, ok := when.Of(g, m)
	if got := (cell{week, day, slot}); got != want || ok != there {
		t.Errorf("Of(%v, %d) = %v, %v, want %v, %v", g, m, got, ok, want, there)
	}
}

func wantMoments(t *testing.T, g api.Grid, w api.When, want []int) {
	t.Helper()
	if got := when.Moments(g, w); !slices.Equal(got, want) {
		t.Errorf("Moments(%v, %v) = %d (%d numbers), want %d (%d numbers)", g, w, got[:min(len(got), 9)], len(got), want[:min(len(want), 9)], len(want))
	}
}

func wantCount(t *testing.T, w api.When, want int) {
	t.Helper()
	if got := when.Count(w); got != want {
		t.Errorf("Count(%v) = %d, want %d", w, got, want)
	}
}

func wantMeet(t *testing.T, a, b api.When, want bool) {
	t.Helper()
	if got := when.Meet(a, b); got != want {
		t.Errorf("Meet(%v, %v) = %v", a, b, got)
	}
}

func wantSameDay(t *testing.T, a, b api.When, want bool) {
	t.Helper()
	if got := when.SameDay(a, b); got != want {
		t.Errorf("SameDay(%v, %v) = %v", a, b, got)
	}
}

func wantGap(t *testing.T, a, b api.When, want int, there bool) {
	t.Helper()
	if got, ok := when.Gap(a, b); got != want || ok != there {
		t.Errorf("Gap(%v, %v) = %d, %v, want %d, %v", a, b, got, ok, want, there)
	}
}

func wantBoth(t *testing.T, a, b, want api.When, there bool) {
	t.Helper()
	if got, ok := when.Both(a, b); got != want || ok != there {
		t.Errorf("Both(%v, %v) = %v, %v, want %v, %v", a, b, got, ok, want, there)
	}
}

func wantCovers(t *testing.T, a, b api.When, want bool) {
	t.Helper()
	if got := when.Covers(a, b); got != want {
		t.Errorf("Covers(%v, %v) = %v", a, b, got)
	}
}

func wantFirst(t *testing.T, g api.Grid, w api.When, first, last int) {
	t.Helper()
	if from, to := when.First(g, w); from != first || to != last {
		t.Errorf("First(%v, %v) = %d, %d, want %d, %d", g, w, from, to, first, last)
	}
}

func wantLess(t *testing.T, a, b api.When, want bool) {
	t.Helper()
	if got := when.Less(a, b); got != want {
		t.Errorf("Less(%v, %v) = %v", a, b, got)
	}
}

// The chapter's examples

func TestExample(t *testing.T) {
	a, b, both := at(3, 1, 0, 2), at(2, 1, 1, 2), at(2, 1, 1, 1)
	wantMeet(t, a, b, true)
	wantBoth(t, a, b, both, true)
	wantBoth(t, b, a, both, true)
	wantMoments(t, grid(2, 1, 3), both, []int{4})
}

// P9.1: RightGrid, Right

func TestRightGrid(t *testing.T) {
	for _, g := range grids() {
		if !when.RightGrid(g) {
			t.Errorf("RightGrid(%v) is false", g)
		}
	}
	for _, g := range wrongGrids() {
		if when.RightGrid(g) {
			t.Errorf("RightGrid(%v) is true", g)
		}
	}
}

// TestEachGrid: all grids there may be, and those beside them.
func TestEachGrid(t *testing.T) {
	rights := 0
	for weeks := -2; weeks <= 23; weeks++ {
		for days := -2; days <= 10; days++ {
			for slots := -2; slots <= 99; slots++ {
				if when.RightGrid(grid(weeks, days, slots)) {
					rights++
				}
			}
		}
	}
	if rights != 20*7*96 {
		t.Errorf("%d grids may be, want %d", rights, 20*7*96)
	}
}

// TestEachRight: of small grids all times there may be, and those beside them.
func TestEachRight(t *testing.T) {
	for _, g := range []api.Grid{grid(1, 1, 1), grid(2, 2, 4), grid(3, 1, 2), grid(1, 3, 3)} {
		rights := map[api.When]bool{}
		for _, w := range times(g) {
			rights[w] = true
		}
		for weeks := range uint32(1 << (g.Weeks + 2)) {
			for days := range 1 << (g.Days + 2) {
				for start := -2; start <= g.Slots+2; start++ {
					for length := -2; length <= g.Slots+2; length++ {
						w := at(weeks, uint8(days), start, length)
						wantRight(t, g, w, rights[w])
					}
				}
			}
		}
	}
}

func TestRightWeeksAndDays(t *testing.T) {
	for _, g := range grids() {
		for i := range 32 {
			for _, weeks := range []uint32{1 << i, allWeeks >> (31 - i), 1 | 1<<i} {
				wantRight(t, g, at(weeks, 1, 0, 1), i < g.Weeks)
			}
		}
		for i := range 8 {
			for _, days := range []uint8{1 << i, allDays >> (7 - i), 1 | 1<<i} {
				wantRight(t, g, at(1, days, 0, 1), i < g.Days)
			}
		}
		for _, w := range empty() {
			wantRight(t, g, w, false)
		}
	}
}

func TestRightSlots(t *testing.T) {
	for _, g := range grids() {
		for start := -2; start <= 99; start++ {
			for length := -2; length <= 99; length++ {
				wantRight(t, g, at(1, 1, start, length), start >= 0 && length >= 1 && start+length <= g.Slots)
			}
		}
		for _, n := range append(wild(), 97) {
			for _, m := range append(wild(), 0, 1, g.Slots-1, g.Slots, 96, 97) {
				wantRight(t, g, at(1, 1, n, m), false)
				wantRight(t, g, at(1, 1, m, n), false)
			}
		}
	}
}

// TestSumsOfSlotsThatGoOver: Start and Len together are small only if their sum goes over.
func TestSumsOfSlotsThatGoOver(t *testing.T) {
	for _, w := range []api.When{at(1, 1, math.MaxInt, math.MinInt), at(1, 1, math.MaxInt, 1), at(1, 1, 1, math.MaxInt), at(1, 1, math.MaxInt, math.MaxInt), at(1, 1, math.MinInt, math.MinInt), at(1, 1, math.MaxInt, 3), at(1, 1, math.MinInt, math.MaxInt), at(1, 1, -5, 10), at(1, 1, 10, -5), at(1, 1, math.MaxInt-95, 96)} {
		for _, g := range grids() {
			wantRight(t, g, w, false)
			wantMoments(t, g, w, nil)
			wantFirst(t, g, w, -1, -1)
		}
	}
}

func TestRightInWrongGrids(t *testing.T) {
	for _, g := range wrongGrids() {
		for _, w := range all() {
			wantRight(t, g, w, false)
		}
	}
}

// P9.1: Moment, Of

func TestMomentAndOf(t *testing.T) {
	for _, g := range grids() {
		list := cells(g)
		for m, c := range list {
			wantMoment(t, g, c, m)
			wantOf(t, g, m, c, true)
		}
		for _, m := range append(wild(), math.MaxInt/2, len(list), len(list)+1, 2*len(list), 20*7*96, -len(list)) {
			if m < 0 || m >= len(list) {
				wantOf(t, g, m, cell{}, false)
			}
		}
	}
}

func TestKnownMoments(t *testing.T) {
	g := grid(20, 7, 96)
	for m, c := range map[int]cell{0: {0, 0, 0}, 95: {0, 0, 95}, 96: {0, 1, 0}, 671: {0, 6, 95}, 672: {1, 0, 0}, 7000: {10, 2, 88}, 13439: {19, 6, 95}} {
		wantMoment(t, g, c, m)
		wantOf(t, g, m, c, true)
	}
	wantMoment(t, grid(3, 5, 10), cell{2, 4, 9}, 149)
	wantOf(t, grid(3, 5, 10), 149, cell{2, 4, 9}, true)
}

// TestNoMoment: one of the three is out of the grid; the number would be one of another moment, for most.
func TestNoMoment(t *testing.T) {
	for _, g := range grids() {
		for _, c := range []cell{{0, 0, 0}, {g.Weeks - 1, g.Days - 1, g.Slots - 1}, {g.Weeks / 2, g.Days / 2, g.Slots / 2}} {
			for _, n := range append(wild(), 97) {
				wantMoment(t, g, cell{n, c.day, c.slot}, -1)
				wantMoment(t, g, cell{c.week, n, c.slot}, -1)
				wantMoment(t, g, cell{c.week, c.day, n}, -1)
				wantMoment(t, g, cell{n, n, n}, -1)
			}
			for more := range 3 {
				wantMoment(t, g, cell{g.Weeks + more, c.day, c.slot}, -1)
				wantMoment(t, g, cell{c.week, g.Days + more, c.slot}, -1)
				wantMoment(t, g, cell{c.week, c.day, g.Slots + more}, -1)
			}
		}
	}
}

func TestMomentAndOfInWrongGrids(t *testing.T) {
	for _, g := range wrongGrids() {
		for _, n := range append(wild(), 0, 1, 6, 7, 19, 20, 95, 96, 97, 13439) {
			wantOf(t, g, n, cell{}, false)
			for _, c := range []cell{{n, n, n}, {n, 0, 0}, {0, n, 0}, {0, 0, n}} {
				wantMoment(t, g, c, -1)
			}
		}
	}
}

// P9.1: Moments, Count

func TestKnownMomentsOfTimes(t *testing.T) {
	for _, c := range []struct {
		g    api.Grid
		w    api.When
		want []int
	}{
		{grid(1, 1, 1), at(1, 1, 0, 1), []int{0}},
		{grid(2, 1, 3), at(3, 1, 0, 2), []int{0, 1, 3, 4}},
		{grid(2, 2, 4), at(3, 3, 1, 2), []int{1, 2, 5, 6, 9, 10, 13, 14}},
		{grid(2, 2, 4), at(2, 2, 3, 1), []int{15}},
		{grid(3, 5, 10), at(5, 17, 8, 2), []int{8, 9, 48, 49, 108, 109, 148, 149}},
		{grid(20, 7, 96), at(1<<19|1, 1<<6|1, 95, 1), []int{95, 671, 12863, 13439}},
	} {
		wantMoments(t, c.g, c.w, c.want)
		wantCount(t, c.w, len(c.want))
	}
}

func TestMoments(t *testing.T) {
	chance := rand.New(rand.NewSource(1))
	for _, g := range grids() {
		for range 50 {
			w := someTime(chance, g)
			want := numbers(g, w)
			wantMoments(t, g, w, want)
			wantCount(t, w, len(want))
		}
		wholly := at(1<<g.Weeks-1, 1<<g.Days-1, 0, g.Slots)
		wantMoments(t, g, wholly, numbers(g, wholly))
		wantCount(t, wholly, g.Weeks*g.Days*g.Slots)
	}
}

// TestMomentsOfEach: all times of small grids.
func TestMomentsOfEach(t *testing.T) {
	for _, g := range []api.Grid{grid(1, 1, 1), grid(2, 2, 4), grid(3, 1, 2), grid(1, 3, 3)} {
		for _, w := range times(g) {
			wantMoments(t, g, w, numbers(g, w))
		}
	}
}

func TestNoMoments(t *testing.T) {
	for _, w := range all() {
		for _, g := range grids() {
			if !when.Right(g, w) {
				wantMoments(t, g, w, nil)
			}
		}
		for _, g := range wrongGrids() {
			wantMoments(t, g, w, nil)
		}
	}
}

// TestMomentsAreNew: whoever changes, or goes on with, a row that was told changes no other one.
func TestMomentsAreNew(t *testing.T) {
	g, w := grid(3, 5, 10), at(7, 31, 2, 5)
	want := numbers(g, w)
	one, two := when.Moments(g, w), when.Moments(g, w)
	clear(one[:cap(one)])
	if !slices.Equal(two, want) {
		t.Error("the row is another one, when the one ahead is changed")
	}
	wantMoments(t, g, w, want)
}

func TestCount(t *testing.T) {
	for _, w := range all() {
		wantCount(t, w, partsOf(w).moments())
	}
	for w, want := range map[api.When]int{
		at(1, 1, 0, 1): 1, at(allWeeks, allDays, 96, 96): 32 * 8 * 96, at(topWeek, topDay, 96, 1): 1, at(5, 7, 3, 4): 24, at(1<<20-1, 127, 0, 96): 13440,
		at(0, allDays, 0, 96): 0, at(allWeeks, 0, 0, 96): 0, at(1, 1, 97, 1): 0, at(1, 1, 0, 97): 0, at(1, 1, 0, 0): 0, at(1, 1, -1, 1): 0, at(1, 1, 0, -1): 0, at(allWeeks, allDays, 0, math.MaxInt): 0, at(allWeeks, allDays, 0, math.MinInt): 0,
	} {
		wantCount(t, w, want)
	}
}

// P9.2: Meet, SameDay, Gap, Both, Covers

// wantPair: all five calls, against what is reckoned week by week, day by day, slot by slot.
func wantPair(t *testing.T, a, b api.When, p, q *parts) {
	t.Helper()
	both := common(p, q)
	wantMeet(t, a, b, both.moments() > 0)
	wantSameDay(t, a, b, both.day())
	if both.day() && count(both.slots[:]) == 0 {
		wantGap(t, a, b, between(p, q), true)
	} else {
		wantGap(t, a, b, 0, false)
	}
	if both.moments() > 0 {
		wantBoth(t, a, b, whole(both), true)
	} else {
		wantBoth(t, a, b, api.When{}, false)
	}
	wantCovers(t, a, b, q.moments() > 0 && *both == *q)
}

// TestEachTwo: of all times, tame ones, empty ones, and others, each two, both ways round.
func TestEachTwo(t *testing.T) {
	list := all()
	ps := make([]*parts, len(list))
	for i, w := range list {
		ps[i] = partsOf(w)
	}
	for i, a := range list {
		for j, b := range list {
			wantPair(t, a, b, ps[i], ps[j])
		}
	}
}

// TestEachTwoSlots: where they begin and end about one another, on one day.
func TestEachTwoSlots(t *testing.T) {
	for _, later := range []int{0, 45, 89} {
		list := times(grid(1, 1, 7))
		for i := range list {
			list[i].Start += later
		}
		for _, a := range list {
			for _, b := range list {
				wantPair(t, a, b, partsOf(a), partsOf(b))
			}
		}
	}
}

// TestTwo: of each kind of two, by hand.
func TestTwo(t *testing.T) {
	none := api.When{}
	for _, c := range []struct {
		name           string
		a, b, both     api.When
		day, ok, there bool
		gap            int
		over, under    bool
	}{
		{"they touch", at(1, 1, 0, 2), at(1, 1, 2, 2), none, true, false, true, 0, false, false},
		{"a slot between", at(1, 1, 0, 2), at(1, 1, 3, 2), none, true, false, true, 1, false, false},
		{"a day's ends", at(1, 1, 0, 1), at(1, 1, 95, 1), none, true, false, true, 94, false, false},
		{"beyond a day's end", at(1, 1, 0, 1), at(1, 1, 96, 96), none, true, false, true, 95, false, false},
		{"one slot shared", at(1, 1, 0, 3), at(1, 1, 2, 2), at(1, 1, 2, 1), true, true, false, 0, false, false},
		{"one within the other", at(1, 1, 0, 9), at(1, 1, 3, 2), at(1, 1, 3, 2), true, true, false, 0, true, false},
		{"within, from the start", at(1, 1, 4, 3), at(1, 1, 4, 2), at(1, 1, 4, 2), true, true, false, 0, true, false},
		{"within, to the end", at(1, 1, 4, 3), at(1, 1, 5, 2), at(1, 1, 5, 2), true, true, false, 0, true, false},
		{"the same", at(5, 9, 4, 3), at(5, 9, 4, 3), at(5, 9, 4, 3), true, true, false, 0, true, true},
		{"a week, but no day", at(3, 1, 4, 3), at(3, 2, 4, 3), none, false, false, false, 0, false, false},
		{"a day, but no week", at(1, 3, 4, 3), at(2, 3, 4, 3), none, false, false, false, 0, false, false},
		{"slots alone", at(1, 1, 4, 3), at(2, 2, 4, 3), none, false, false, false, 0, false, false},
		{"some weeks and days", at(7, 7, 4, 3), at(14, 13, 5, 3), at(6, 5, 5, 2), true, true, false, 0, false, false},
		{"fewer weeks", at(7, 7, 4, 3), at(3, 7, 4, 3), at(3, 7, 4, 3), true, true, false, 0, true, false},
		{"fewer days", at(7, 7, 4, 3), at(7, 6, 4, 3), at(7, 6, 4, 3), true, true, false, 0, true, false},
		{"the highest bits", at(topWeek|1, topDay|2, 4, 3), at(topWeek|2, topDay|1, 4, 3), at(topWeek, topDay, 4, 3), true, true, false, 0, false, false},
		{"the longest ones", at(allWeeks, allDays, 96, 96), at(allWeeks, allDays, 1, 96), at(allWeeks, allDays, 96, 1), true, true, false, 0, false, false},
		{"no weeks", at(1, 1, 0, 2), at(0, 1, 0, 1), none, false, false, false, 0, false, false},
		{"no days", at(1, 1, 0, 2), at(1, 0, 0, 1), none, false, false, false, 0, false, false},
		{"not tame by Start", at(1, 1, 97, 1), at(1, 1, 97, 1), none, false, false, false, 0, false, false},
		{"not tame by Len", at(1, 1, 0, 97), at(1, 1, 0, 2), none, false, false, false, 0, false, false},
		{"no slots", at(1, 1, 0, 5), at(1, 1, 2, 0), none, false, false, false, 0, false, false},
	} {
		t.Run(c.name, func(t *testing.T) {
			for _, two := range [][2]api.When{{c.a, c.b}, {c.b, c.a}} {
				wantMeet(t, two[0], two[1], c.ok)
				wantSameDay(t, two[0], two[1], c.day)
				wantGap(t, two[0], two[1], c.gap, c.there)
				wantBoth(t, two[0], two[1], c.both, c.ok)
			}
			wantCovers(t, c.a, c.b, c.over)
			wantCovers(t, c.b, c.a, c.under)
		})
	}
}

// TestCoversItself: if it has moments.
func TestCoversItself(t *testing.T) {
	for _, w := range tame() {
		wantCovers(t, w, w, true)
		wantBoth(t, w, w, w, true)
	}
	for _, w := range slices.Concat(empty(), untame()) {
		wantCovers(t, w, w, false)
		wantCovers(t, at(allWeeks, allDays, 0, 96), w, false)
		wantBoth(t, w, w, api.When{}, false)
	}
}

// P9.3: First, Less

// first are the numbers of the first moment of w, and of the last one on its day, in g, both of which may be.
func first(g api.Grid, w api.When) (int, int) {
	list, moments := numbers(g, w), cells(g)
	last := list[0]
	for _, m := range list {
		if moments[m].week == moments[list[0]].week && moments[m].day == moments[list[0]].day {
			last = m
		}
	}
	return list[0], last
}

func TestFirst(t *testing.T) {
	chance := rand.New(rand.NewSource(2))
	for _, g := range grids() {
		list := []api.When{at(1, 1, 0, 1), at(1, 1, g.Slots-1, 1), at(1<<(g.Weeks-1), 1<<(g.Days-1), g.Slots-1, 1), at(1<<g.Weeks-1, 1<<g.Days-1, 0, g.Slots)}
		for range 50 {
			list = append(list, someTime(chance, g))
		}
		for _, w := range list {
			from, to := first(g, w)
			wantFirst(t, g, w, from, to)
		}
	}
	for _, w := range times(grid(2, 3, 4)) {
		from, to := first(grid(2, 3, 4), w)
		wantFirst(t, grid(2, 3, 4), w, from, to)
	}
}

func TestKnownFirsts(t *testing.T) {
	g := grid(20, 7, 96)
	wantFirst(t, g, at(6, 12, 10, 4), 874, 877)
	wantFirst(t, g, at(1<<19, 1<<6, 95, 1), 13439, 13439)
	wantFirst(t, g, at(1<<20-1, 127, 0, 96), 0, 95)
	wantFirst(t, g, at(1<<19|2, 1|1<<6, 0, 96), 672, 767)
	wantFirst(t, grid(1, 1, 1), at(1, 1, 0, 1), 0, 0)
}

func TestNoFirst(t *testing.T) {
	for _, w := range all() {
		for _, g := range grids() {
			if !when.Right(g, w) {
				wantFirst(t, g, w, -1, -1)
			}
		}
		for _, g := range wrongGrids() {
			wantFirst(t, g, w, -1, -1)
		}
	}
}

// rising are numbers over the int's whole range, each above the one ahead.
func rising() []int {
	return []int{math.MinInt, math.MinInt + 1, -1 << 32, math.MinInt32, -97, -1, 0, 1, 2, 95, 96, 97, math.MaxInt32, 1 << 32, 1<<32 + 1, math.MaxInt - 1, math.MaxInt}
}

// ranked are times, each but the first of which stands behind the one ahead, as they differ in one field and whatever stands behind it.
func ranked() []api.When {
	var out []api.When
	for _, weeks := range []uint32{0, 1, 2, 3, 1 << 19, 1 << 20, topWeek - 1, topWeek, allWeeks - 1, allWeeks} {
		for _, days := range []uint8{0, 1, 2, 127, topDay, allDays} {
			for _, start := range []int{math.MinInt, -1, 0, 1, 96, 97, math.MaxInt} {
				for _, length := range []int{math.MinInt, 0, 1, 97, math.MaxInt} {
					out = append(out, at(weeks, days, start, length))
				}
			}
		}
	}
	return out
}

func TestLess(t *testing.T) {
	list := ranked()
	for i := range list {
		wantLess(t, list[i], list[i], false)
		for j := range i {
			if when.Less(list[i], list[j]) || !when.Less(list[j], list[i]) {
				t.Fatalf("%v does not stand ahead of %v", list[j], list[i])
			}
		}
	}
}

// TestLessByOneAlone: whatever the other three are.
func TestLessByOneAlone(t *testing.T) {
	for _, w := range slices.Concat(empty(), untame(), tame()[:40]) {
		for i, n := range rising() {
			for j, m := range rising() {
				a, b := w, w
				a.Start, b.Start = n, m
				wantLess(t, a, b, i < j)
				a, b = w, w
				a.Len, b.Len = n, m
				wantLess(t, a, b, i < j)
			}
		}
		for i := range 32 {
			for j := range 32 {
				a, b := w, w
				a.Weeks, b.Weeks = 1<<i, 1<<j
				wantLess(t, a, b, i < j)
				a, b = w, w
				a.Days, b.Days = uint8(8*i), uint8(8*j)
				wantLess(t, a, b, i < j)
			}
		}
	}
}

// P9.4: what follows

// wantFollows: against their Moments, of which neither is looked at by its fields.
func wantFollows(t *testing.T, g api.Grid, a, b api.When, as, bs []int) {
	t.Helper()
	in := map[int]bool{}
	for _, m := range as {
		in[m] = true
	}
	var shared []int
	for _, m := range bs {
		if in[m] {
			shared = append(shared, m)
		}
	}
	wantMeet(t, a, b, len(shared) > 0)
	wantCovers(t, a, b, len(shared) == len(bs))
	both, ok := when.Both(a, b)
	if ok != (len(shared) > 0) {
		t.Errorf("Both(%v, %v) is %v", a, b, ok)
	}
	wantMoments(t, g, both, shared)
}

func TestMeetIsSharedMoments(t *testing.T) {
	chance := rand.New(rand.NewSource(3))
	for _, g := range grids() {
		for range 200 {
			a, b := someTime(chance, g), someTime(chance, g)
			if chance.Intn(2) == 0 {
				b.Weeks, b.Days = max(1, a.Weeks&-a.Weeks), max(1, a.Days&-a.Days)
			}
			wantFollows(t, g, a, b, when.Moments(g, a), when.Moments(g, b))
		}
	}
}

// TestMeetIsSharedMomentsOfEachTwo: all times of a small grid.
func TestMeetIsSharedMomentsOfEachTwo(t *testing.T) {
	g := grid(2, 2, 4)
	list := times(g)
	for _, a := range list {
		for _, b := range list {
			wantFollows(t, g, a, b, numbers(g, a), numbers(g, b))
		}
	}
}

// asked is all that the calls tell of two times, in a row.
func asked(g api.Grid, a, b api.When) []any {
	var out []any
	tell := func(l ...any) { out = append(out, l...) }
	for _, m := range when.Moments(g, a) {
		tell(m)
	}
	from, to := when.First(g, a)
	week, day, slot, ok := when.Of(g, a.Start)
	tell(when.RightGrid(g), when.Right(g, a), when.Moment(g, 0, b.Len, a.Start), week, day, slot, ok, from, to, when.Count(a))
	gap, apart := when.Gap(a, b)
	both, ok := when.Both(a, b)
	tell(when.Meet(a, b), when.SameDay(a, b), gap, apart, both, ok, when.Covers(a, b), when.Less(a, b))
	return out
}

// TestAgain: whatever else was asked meanwhile, the answers are the same.
func TestAgain(t *testing.T) {
	list, g := slices.Concat(empty(), untame(), tame()[:60]), grid(3, 5, 10)
	var wants [][]any
	for i, w := range list {
		wants = append(wants, asked(g, w, list[len(list)-1-i]))
	}
	for i, w := range slices.Backward(list) {
		if !slices.Equal(asked(g, w, list[len(list)-1-i]), wants[i]) {
			t.Errorf("of %v something else is told, when it is asked again", w)
		}
	}
}
