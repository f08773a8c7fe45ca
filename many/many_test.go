package many_test

import (
	"math"
	"math/rand"
	"slices"
	"testing"

	"horarium/api"
	"horarium/many"
)

// wild are numbers over the int's whole range, none of them one that matters; those among them that are about 2^32 look well if they are cut short.
func wild() []int {
	return []int{math.MinInt, math.MinInt + 1, math.MinInt + 96, math.MinInt32 - 1, math.MinInt32, -1 << 32, -1<<32 + 1, -1<<32 + 21, -1 << 16, -97, -3, 1 << 16, math.MaxInt32, 1 << 32, 1<<32 + 1, 1<<32 + 22, 1<<62 + 1, math.MaxInt - 96, math.MaxInt - 1, math.MaxInt}
}

// high are numbers to which a kind's number is added, so that its low bits are that kind's.
func high() []int {
	return []int{0, 1 << 8, 1 << 16, 1 << 32, -1 << 8, -1 << 16, -1 << 32, math.MinInt}
}

func span(from, to int) []int {
	var out []int
	for n := from; n <= to; n++ {
		out = append(out, n)
	}
	return out
}

func ofMany() []api.RuleKind {
	return []api.RuleKind{api.MostDays, api.MostLoad, api.MostBreaks, api.MostBlock}
}

func ofPairs() []api.RuleKind {
	return []api.RuleKind{
		api.SameStart, api.SameTime, api.OtherTime, api.SameDays, api.OtherDays, api.SameWeeks, api.OtherWeeks,
		api.Meet, api.Apart, api.SameRoom, api.OtherRoom, api.Before, api.Within, api.Folk,
	}
}

// noKinds are of pairs neither nor of many.
func noKinds() []api.RuleKind {
	out := []api.RuleKind{0, 15, 16, 17, 18, 19, 20, 25, 26, 27, 100, -1, -2, -13, -14, -20, -21, -22, -23, -24, -25, 256 + 21, 1<<16 + 22, 256 + 13}
	for _, n := range wild() {
		out = append(out, api.RuleKind(n))
	}
	return out
}

// week has two weeks of five days of ten slots, wide the most of all.
func week() api.Grid { return grid(2, 5, 10) }

func wide() api.Grid { return grid(20, 7, 96) }

func grid(weeks, days, slots int) api.Grid {
	return api.Grid{Weeks: weeks, Days: days, Slots: slots}
}

func at(weeks uint32, days uint8, start, length int) api.When {
	return api.When{Weeks: weeks, Days: days, Start: start, Len: length}
}

// slots are these slots of the first day of the first week.
func slots(start, length int) api.When { return at(1, 1, start, length) }

func row(l ...api.When) []api.When { return l }

// always is the time of all moments of g.
func always(g api.Grid) api.When { return at(1<<g.Weeks-1, 1<<g.Days-1, 0, g.Slots) }

// times are all Whens that may be in g.
func times(g api.Grid) []api.When {
	var out []api.When
	for weeks := 1; weeks < 1<<g.Weeks; weeks++ {
		for days := 1; days < 1<<g.Days; days++ {
			for start := range g.Slots {
				for length := 1; start+length <= g.Slots; length++ {
					out = append(out, at(uint32(weeks), uint8(days), start, length))
				}
			}
		}
	}
	return out
}

// wrongGrids may not be, each by one number alone or by several.
func wrongGrids() []api.Grid {
	out := []api.Grid{{}, grid(21, 7, 96), grid(20, 8, 96), grid(20, 7, 97), grid(21, 8, 97), grid(32, 8, 96), grid(0, 5, 10), grid(2, 0, 10), grid(2, 5, 0), grid(-2, -5, 10), grid(-2, 5, 10), grid(2, -5, 10), grid(2, 5, -10)}
	for _, n := range wild() {
		out = append(out, grid(n, 5, 10), grid(2, n, 10), grid(2, 5, n), grid(n, n, n), grid(n, n, 10))
	}
	return out
}

// foul are times that may not be in the grid week, each for one reason, and such as are wild.
func foul() []api.When {
	out := []api.When{
		{}, at(0, 1, 0, 1), at(1, 0, 0, 1), at(0, 31, 0, 10), at(3, 0, 0, 10),
		at(4, 1, 0, 1), at(5, 1, 0, 1), at(7, 31, 0, 10), at(1<<20|1, 1, 0, 1), at(1<<31, 1, 0, 1), at(1<<31|3, 31, 0, 10), at(math.MaxUint32, 31, 0, 10),
		at(1, 32, 0, 1), at(1, 33, 0, 1), at(3, 63, 0, 10), at(1, 128, 0, 1), at(1, 129, 0, 1), at(3, 255, 0, 10),
		slots(-1, 1), slots(-1, 2), slots(-1, 11), slots(-5, 10), at(3, 31, -1, 10),
		slots(0, 0), slots(5, 0), slots(10, 0), slots(0, -1), slots(5, -3), at(3, 31, 5, -5),
		slots(0, 11), slots(1, 10), slots(9, 2), slots(10, 1), slots(11, 1), slots(95, 1), slots(0, 96), at(3, 31, 0, 11), at(3, 31, 1, 10),
		slots(math.MaxInt, math.MaxInt), slots(math.MinInt, math.MinInt), slots(math.MinInt, math.MaxInt), slots(math.MaxInt, math.MinInt), slots(math.MaxInt, 1), slots(1, math.MaxInt),
	}
	for _, n := range wild() {
		out = append(out, slots(n, 1), slots(0, n), at(3, 31, n, 10), at(3, 31, 0, n))
	}
	return out
}

// orders are all orders of a row.
func orders(l []api.When) [][]api.When {
	if len(l) == 0 {
		return [][]api.When{nil}
	}
	var out [][]api.When
	for i, w := range l {
		for _, rest := range orders(slices.Delete(slices.Clone(l), i, i+1)) {
			out = append(out, append(row(w), rest...))
		}
	}
	return out
}

// The chapter's words once more, by means of their own: slot by slot

func isGrid(g api.Grid) bool {
	return g.Weeks > 0 && g.Weeks < 21 && g.Days > 0 && g.Days < 8 && g.Slots > 0 && g.Slots < 97
}

func isIn(g api.Grid, w api.When) bool {
	if !isGrid(g) || w.Start < 0 || w.Start > 95 || w.Len < 1 || w.Len > 96 {
		return false
	}
	return w.Weeks > 0 && w.Weeks < 1<<g.Weeks && w.Days > 0 && int(w.Days) < 1<<g.Days && w.Start+w.Len <= g.Slots
}

func hasBit(mask, i int) bool { return mask/int(math.Pow(2, float64(i)))%2 == 1 }

// ofDay are those of l that are on that day of the grid, as they stand.
func ofDay(g api.Grid, l []api.When, day int) []api.When {
	var out []api.When
	for _, w := range l {
		if isIn(g, w) && hasBit(int(w.Weeks), day/g.Days) && hasBit(int(w.Days), day%g.Days) {
			out = append(out, w)
		}
	}
	return out
}

// held tells of each slot of a day whether some has it, and how many start in it.
func held(g api.Grid, l []api.When, day int) (taken []bool, begun []int) {
	taken, begun = make([]bool, g.Slots), make([]int, g.Slots)
	for _, w := range ofDay(g, l, day) {
		begun[w.Start]++
		for slot := range w.Len {
			taken[w.Start+slot] = true
		}
	}
	return taken, begun
}

// blocksOf parts the slots of a day where more than gap of them behind one another are free.
func blocksOf(g api.Grid, l []api.When, day, gap int) [][2]int {
	if !isGrid(g) || day < 0 || day > g.Weeks*g.Days-1 {
		return nil
	}
	var out [][2]int
	free := 0
	taken, begun := held(g, l, day)
	for slot := range g.Slots {
		if !taken[slot] {
			free++
			continue
		}
		if len(out) == 0 || free > 0 && free > gap {
			out, free = append(out, [2]int{}), 0
		}
		out[len(out)-1][0] += free + 1
		out[len(out)-1][1] += begun[slot]
		free = 0
	}
	return out
}

func daysOf(g api.Grid, l []api.When) int {
	n := 0
	for day := range 7 {
		if slices.ContainsFunc(l, func(w api.When) bool { return isIn(g, w) && hasBit(int(w.Days), day) }) {
			n++
		}
	}
	return n
}

// above is by how much n is above a; a below 0 counts as 0.
func above(n, a int) int {
	if a < 0 {
		a = 0
	}
	if n <= a {
		return 0
	}
	return n - a
}

func overOf(g api.Grid, k api.RuleKind, a, b int, l []api.When) int {
	if !isGrid(g) {
		return 0
	}
	if k == 21 {
		return above(daysOf(g, l), a)
	}
	over := 0
	for day := range g.Weeks * g.Days {
		blocks := blocksOf(g, l, day, b)
		switch k {
		case 22:
			n := 0
			taken, _ := held(g, l, day)
			for _, is := range taken {
				if is {
					n++
				}
			}
			over += above(n, a)
		case 23:
			if len(blocks) > 0 {
				over += above(len(blocks)-1, a)
			}
		case 24:
			for _, block := range blocks {
				if block[1] != 1 && above(block[0], a) > 0 {
					over++
				}
			}
		}
	}
	return over
}

// What is wanted

func wantKnown(t *testing.T, k api.RuleKind, want bool) {
	t.Helper()
	if got := many.Known(k); got != want {
		t.Errorf("Known(%d) = %v", k, got)
	}
}

func wantRight(t *testing.T, k api.RuleKind, a, b int, want bool) {
	t.Helper()
	if got := many.Right(k, a, b); got != want {
		t.Errorf("Right(%d, %d, %d) = %v", k, a, b, got)
	}
}

func wantDays(t *testing.T, g api.Grid, l []api.When, want int) {
	t.Helper()
	if got := many.Days(g, l); got != want {
		t.Errorf("Days(%v, %v) = %d, want %d", g, l, got, want)
	}
}

func wantBlocks(t *testing.T, g api.Grid, l []api.When, day, gap int, want ...[2]int) {
	t.Helper()
	if got := many.Blocks(g, l, day, gap); !slices.Equal(got, want) {
		t.Errorf("Blocks(%v, %v, %d, %d) = %v, want %v", g, l, day, gap, got, want)
	}
}

// wantOver: Over, and by it Broken and Least, with whole and without.
func wantOver(t *testing.T, g api.Grid, k api.RuleKind, a, b int, l []api.When, want int) {
	t.Helper()
	if got := many.Over(g, k, a, b, l); got != want {
		t.Errorf("Over(%v, %d, %d, %d, %v) = %d, want %d", g, k, a, b, l, got, want)
	}
	wantBroken(t, g, k, a, b, l, true, want > 0)
	wantBroken(t, g, k, a, b, l, false, want > 0 && k != 23)
	wantLeast(t, g, k, a, b, l, true, want)
	if k == 23 || k == 24 {
		want = 0
	}
	wantLeast(t, g, k, a, b, l, false, want)
}

func wantBroken(t *testing.T, g api.Grid, k api.RuleKind, a, b int, l []api.When, whole, want bool) {
	t.Helper()
	if got := many.Broken(g, k, a, b, l, whole); got != want {
		t.Errorf("Broken(%v, %d, %d, %d, %v, %v) = %v", g, k, a, b, l, whole, got)
	}
}

func wantLeast(t *testing.T, g api.Grid, k api.RuleKind, a, b int, l []api.When, whole bool, want int) {
	t.Helper()
	if got := many.Least(g, k, a, b, l, whole); got != want {
		t.Errorf("Least(%v, %d, %d, %d, %v, %v) = %d, want %d", g, k, a, b, l, whole, got, want)
	}
}

// wantThat: what the chapter's words tell, of these days, a and b.
func wantThat(t *testing.T, g api.Grid, l []api.When, days, as, bs []int) {
	t.Helper()
	wantDays(t, g, l, daysOf(g, l))
	for _, b := range bs {
		for _, day := range days {
			wantBlocks(t, g, l, day, b, blocksOf(g, l, day, b)...)
		}
		for _, a := range as {
			for _, k := range ofMany() {
				wantOver(t, g, k, a, b, l, overOf(g, k, a, b, l))
			}
		}
	}
}

// The chapter's example

func TestExample(t *testing.T) {
	l := row(slots(0, 2), slots(2, 2), slots(6, 2))
	wantBlocks(t, week(), l, 0, 1, [2]int{4, 2}, [2]int{2, 1})
	wantBlocks(t, week(), l, 0, 2, [2]int{8, 3})
}

// P16.1: Known, Right

func TestKnown(t *testing.T) {
	for _, k := range ofMany() {
		wantKnown(t, k, true)
	}
	for _, k := range append(ofPairs(), noKinds()...) {
		wantKnown(t, k, false)
	}
	for _, h := range high() {
		for n := -300; n <= 300; n++ {
			wantKnown(t, api.RuleKind(h+n), h+n >= 21 && h+n <= 24)
		}
	}
}

// bounds are the least and the greatest a, and the least and the greatest b, of each kind.
func bounds() map[api.RuleKind][4]int {
	out := map[api.RuleKind][4]int{21: {1, 7, 0, 0}, 22: {1, 96, 0, 0}, 23: {0, 48, 0, 96}, 24: {1, 96, 0, 96}}
	for _, k := range ofPairs() {
		out[k] = [4]int{}
	}
	out[13] = [4]int{1, 96, 0, 0}
	return out
}

func TestRight(t *testing.T) {
	for _, c := range []struct {
		k    api.RuleKind
		a, b int
		want bool
	}{
		{api.MostDays, 0, 0, false}, {api.MostDays, 1, 0, true}, {api.MostDays, 7, 0, true}, {api.MostDays, 8, 0, false},
		{api.MostDays, 1, 1, false}, {api.MostDays, 7, -1, false}, {api.MostDays, 0, 1, false}, {api.MostDays, -1, 0, false},
		{api.MostLoad, 0, 0, false}, {api.MostLoad, 1, 0, true}, {api.MostLoad, 96, 0, true}, {api.MostLoad, 97, 0, false},
		{api.MostLoad, 1, 1, false}, {api.MostLoad, 96, -1, false}, {api.MostLoad, 97, 1, false}, {api.MostLoad, -1, 0, false},
		{api.MostBreaks, -1, 0, false}, {api.MostBreaks, 0, 0, true}, {api.MostBreaks, 48, 0, true}, {api.MostBreaks, 49, 0, false},
		{api.MostBreaks, 0, -1, false}, {api.MostBreaks, 0, 96, true}, {api.MostBreaks, 48, 96, true}, {api.MostBreaks, 48, 97, false}, {api.MostBreaks, 49, 96, false},
		{api.MostBlock, 0, 0, false}, {api.MostBlock, 1, 0, true}, {api.MostBlock, 96, 0, true}, {api.MostBlock, 97, 0, false},
		{api.MostBlock, 1, -1, false}, {api.MostBlock, 1, 96, true}, {api.MostBlock, 96, 96, true}, {api.MostBlock, 96, 97, false}, {api.MostBlock, 0, 96, false},
		{api.Within, 0, 0, false}, {api.Within, 1, 0, true}, {api.Within, 96, 0, true}, {api.Within, 97, 0, false},
		{api.Within, 1, 1, false}, {api.Within, 96, -1, false}, {api.Within, 0, 1, false}, {api.Within, -1, 0, false},
	} {
		wantRight(t, c.k, c.a, c.b, c.want)
	}
	for _, k := range ofPairs() {
		if k != api.Within {
			wantRight(t, k, 0, 0, true)
			for _, n := range []int{1, -1, 96, math.MinInt, math.MaxInt} {
				wantRight(t, k, n, 0, false)
				wantRight(t, k, 0, n, false)
				wantRight(t, k, n, n, false)
				wantRight(t, k, n, -n, false)
			}
		}
	}
}

// TestRightOfAll: each two numbers about those that matter, and wild ones, of each kind.
func TestRightOfAll(t *testing.T) {
	numbers := append(wild(), span(-3, 100)...)
	for k, c := range bounds() {
		for _, a := range numbers {
			for _, b := range numbers {
				wantRight(t, k, a, b, a >= c[0] && a <= c[1] && b >= c[2] && b <= c[3])
			}
		}
	}
}

func TestRightOfNoKind(t *testing.T) {
	some := append(wild(), -1, 0, 1, 7, 8, 48, 96, 97)
	for _, k := range noKinds() {
		for _, a := range some {
			for _, b := range some {
				wantRight(t, k, a, b, false)
			}
		}
	}
}

// TestRightByNumber: numbers about all kinds, also such as end in a kind's bits.
func TestRightByNumber(t *testing.T) {
	for _, h := range high() {
		for n := -300; n <= 300; n++ {
			k := api.RuleKind(h + n)
			c, found := bounds()[k]
			for _, a := range []int{0, 1, 2, 7, 8, 48, 49} {
				for _, b := range []int{0, 1, 2} {
					wantRight(t, k, a, b, found && a >= c[0] && a <= c[1] && b <= c[3])
				}
			}
		}
	}
}

// P16.2: Days

func TestDays(t *testing.T) {
	g := week()
	for _, c := range []struct {
		l    []api.When
		want int
	}{
		{nil, 0}, {row(), 0},
		{row(slots(0, 1)), 1}, {row(slots(9, 1)), 1}, {row(at(2, 16, 0, 10)), 1},
		{row(always(g)), 5}, {row(at(1, 31, 0, 1)), 5}, {row(at(2, 5, 3, 2)), 2},
		// One day in two weeks is one day of the week.
		{row(at(1, 4, 0, 1), at(2, 4, 0, 1)), 1}, {row(at(3, 4, 0, 1)), 1}, {row(at(1, 4, 0, 1), at(2, 8, 0, 1)), 2},
		{row(slots(0, 1), slots(1, 1), slots(0, 10), slots(0, 10), at(2, 1, 5, 5)), 1},
		{row(at(1, 1, 0, 1), at(1, 2, 0, 1), at(1, 4, 0, 1), at(1, 8, 0, 1), at(1, 16, 0, 1)), 5},
		{row(at(1, 3, 0, 1), at(1, 6, 0, 1), at(2, 12, 0, 1)), 4},
	} {
		for _, l := range orders(c.l) {
			wantDays(t, g, l, c.want)
			wantThat(t, g, l, span(-1, 10), span(0, 3), span(-1, 3))
		}
	}
}

func TestDaysByEachDay(t *testing.T) {
	for days := 1; days < 128; days++ {
		var l []api.When
		for day := range 7 {
			if hasBit(days, day) {
				l = append(l, at(1<<(19-day), 1<<day, 90, 6))
			}
		}
		wantDays(t, wide(), l, len(l))
		wantDays(t, wide(), row(at(1<<20-1, uint8(days), 0, 96)), len(l))
	}
}

// TestWithoutFoul: those that may not be in the grid are left out, alone and among others that may, wherever they stand.
func TestWithoutFoul(t *testing.T) {
	g := week()
	good := row(slots(0, 2), at(2, 3, 2, 2), slots(5, 1), at(1, 1, 6, 3))
	numbers := span(-1, 3)
	for _, w := range foul() {
		for _, l := range [][]api.When{row(w), row(w, w)} {
			wantDays(t, g, l, 0)
			for day := -1; day <= 10; day++ {
				wantBlocks(t, g, l, day, 100)
			}
			for _, k := range ofMany() {
				wantOver(t, g, k, 0, 0, l, 0)
			}
		}
		for i := range len(good) + 1 {
			l := slices.Insert(slices.Clone(good), i, w)
			wantDays(t, g, l, 2)
			wantBlocks(t, g, l, 0, 1, [2]int{2, 1}, [2]int{4, 2})
			wantBlocks(t, g, l, 5, 1, [2]int{2, 1})
			for _, k := range ofMany() {
				for _, a := range numbers {
					for _, b := range numbers {
						wantOver(t, g, k, a, b, l, overOf(g, k, a, b, good))
					}
				}
			}
		}
	}
	wantThat(t, g, foul(), span(-1, 10), numbers, numbers)
	wantThat(t, g, slices.Concat(foul(), good, foul()), span(-1, 10), numbers, numbers)
}

// TestInItsGrid: the same times may be in one grid, and not in one that is less by one.
func TestInItsGrid(t *testing.T) {
	l := row(slots(0, 1), at(2, 1, 0, 1), at(1, 16, 0, 1), slots(8, 2))
	wantDays(t, week(), l, 2)
	wantDays(t, grid(1, 5, 10), l, 2)
	wantDays(t, grid(2, 4, 10), l, 1)
	wantDays(t, grid(2, 5, 9), l, 2)
	wantBlocks(t, week(), l, 0, 0, [2]int{1, 1}, [2]int{2, 1})
	wantBlocks(t, grid(2, 5, 9), l, 0, 0, [2]int{1, 1})
	wantBlocks(t, week(), l, 5, 0, [2]int{1, 1})
	wantBlocks(t, grid(2, 4, 10), l, 4, 0, [2]int{1, 1})
	wantBlocks(t, grid(1, 5, 10), l, 5, 0)
	for _, g := range []api.Grid{week(), grid(1, 5, 10), grid(2, 4, 10), grid(2, 5, 9), grid(1, 1, 1), wide()} {
		wantThat(t, g, l, span(-1, 12), span(-1, 4), span(-1, 9))
	}
}

func TestInNoGrid(t *testing.T) {
	some := append(wild(), 0, 1, 2, 3, 4, 5, 9, 10)
	for _, g := range wrongGrids() {
		for _, l := range [][]api.When{nil, row(slots(0, 1)), row(slots(0, 2), slots(2, 2), slots(6, 2)), row(always(week()), slots(0, 1)), foul()} {
			wantDays(t, g, l, 0)
			for _, n := range some {
				wantBlocks(t, g, l, n, 0)
				wantBlocks(t, g, l, 0, n)
				for _, k := range ofMany() {
					wantOver(t, g, k, 0, n, l, 0)
					wantOver(t, g, k, n, 0, l, 0)
				}
			}
		}
	}
}

// P16.2: Blocks

func TestBlocks(t *testing.T) {
	type b = [2]int
	for _, c := range []struct {
		l    []api.When
		gap  int
		want []b
	}{
		{nil, 0, nil}, {nil, math.MaxInt, nil}, {row(at(1, 2, 0, 1), at(2, 1, 0, 1)), 9, nil},
		{row(slots(0, 1)), 0, []b{{1, 1}}}, {row(slots(9, 1)), 0, []b{{1, 1}}}, {row(slots(3, 4)), 5, []b{{4, 1}}}, {row(slots(0, 10)), 0, []b{{10, 1}}},
		// They touch.
		{row(slots(0, 2), slots(2, 3)), 0, []b{{5, 2}}}, {row(slots(4, 2), slots(6, 1), slots(7, 3)), 0, []b{{6, 3}}},
		// A break of gap, one slot less, one more.
		{row(slots(0, 2), slots(4, 3)), 2, []b{{7, 2}}}, {row(slots(0, 2), slots(4, 3)), 3, []b{{7, 2}}}, {row(slots(0, 2), slots(4, 3)), 1, []b{{2, 1}, {3, 1}}},
		{row(slots(1, 2), slots(4, 3)), 2, []b{{6, 2}}}, {row(slots(1, 1), slots(5, 3)), 2, []b{{1, 1}, {3, 1}}},
		{row(slots(1, 1), slots(3, 1), slots(5, 1), slots(7, 1)), 0, []b{{1, 1}, {1, 1}, {1, 1}, {1, 1}}}, {row(slots(1, 1), slots(3, 1), slots(5, 1), slots(7, 1)), 1, []b{{7, 4}}},
		{row(slots(0, 1), slots(2, 1), slots(5, 1), slots(7, 2)), 1, []b{{3, 2}, {4, 2}}},
		// They share slots.
		{row(slots(0, 4), slots(3, 4)), 0, []b{{7, 2}}}, {row(slots(0, 4), slots(3, 4)), -5, []b{{7, 2}}}, {row(slots(2, 3), slots(4, 3), slots(6, 3)), 0, []b{{7, 3}}},
		// One is within the other: what comes next is held against the greatest end.
		{row(slots(0, 6), slots(1, 1), slots(6, 1)), 0, []b{{7, 3}}}, {row(slots(0, 6), slots(1, 1), slots(7, 1)), 0, []b{{6, 2}, {1, 1}}}, {row(slots(0, 6), slots(1, 1), slots(7, 1)), 1, []b{{8, 3}}},
		{row(slots(0, 6), slots(1, 1), slots(3, 2), slots(8, 2)), 1, []b{{6, 3}, {2, 1}}}, {row(slots(0, 6), slots(1, 1), slots(3, 2), slots(8, 2)), 2, []b{{10, 4}}},
		{row(slots(0, 2), slots(1, 5), slots(2, 1), slots(8, 1)), 1, []b{{6, 3}, {1, 1}}}, {row(slots(0, 2), slots(1, 5), slots(2, 1), slots(8, 1)), 2, []b{{9, 4}}},
		{row(slots(0, 10), slots(0, 1), slots(5, 1), slots(9, 1)), 0, []b{{10, 4}}},
		// The same Start, two Lens; and both the same.
		{row(slots(0, 1), slots(0, 4), slots(5, 1)), 0, []b{{4, 2}, {1, 1}}}, {row(slots(0, 1), slots(0, 4), slots(5, 1)), 1, []b{{6, 3}}}, {row(slots(3, 1), slots(3, 5)), 0, []b{{5, 2}}},
		{row(slots(3, 2), slots(3, 2)), 0, []b{{2, 2}}}, {row(slots(3, 2), slots(3, 2), slots(3, 2), slots(6, 1)), 0, []b{{2, 3}, {1, 1}}}, {row(slots(9, 1), slots(9, 1)), math.MinInt, []b{{1, 2}}},
		// Gaps below 0 count as 0.
		{row(slots(0, 2), slots(2, 2), slots(5, 1)), -1, []b{{4, 2}, {1, 1}}}, {row(slots(0, 2), slots(2, 2), slots(5, 1)), math.MinInt, []b{{4, 2}, {1, 1}}},
		{row(slots(0, 1), slots(9, 1)), math.MaxInt, []b{{10, 2}}}, {row(slots(0, 1), slots(9, 1)), 8, []b{{10, 2}}}, {row(slots(0, 1), slots(9, 1)), 7, []b{{1, 1}, {1, 1}}},
		// Others are on other days, and in other weeks.
		{row(slots(0, 1), at(2, 1, 1, 1), at(1, 2, 1, 1), at(2, 31, 1, 1), at(3, 30, 1, 1), slots(2, 1)), 0, []b{{1, 1}, {1, 1}}},
		{row(at(3, 31, 0, 1), at(2, 1, 1, 3), at(3, 1, 4, 2), at(1, 30, 1, 3)), 2, []b{{1, 1}, {2, 1}}},
	} {
		for _, l := range orders(c.l) {
			wantBlocks(t, week(), l, 0, c.gap, c.want...)
		}
	}
}

// TestBlocksByGap: each break that a day has room for, with each gap.
func TestBlocksByGap(t *testing.T) {
	for free := range 95 {
		for _, gap := range append(wild(), span(-1, 97)...) {
			l := row(at(1<<19, 64, 1+free, 1), at(1<<19, 64, 0, 1))
			if free == 0 || free <= gap {
				wantBlocks(t, wide(), l, 139, gap, [2]int{free + 2, 2})
			} else {
				wantBlocks(t, wide(), l, 139, gap, [2]int{1, 1}, [2]int{1, 1})
			}
		}
	}
}

// TestBlocksByDay: a time of each day of the grid alone, on all of them, and on all but one.
func TestBlocksByDay(t *testing.T) {
	for _, g := range []api.Grid{week(), wide(), grid(20, 1, 5), grid(1, 7, 5), grid(1, 1, 1)} {
		for week := range g.Weeks {
			for day := range g.Days {
				mine := at(1<<week, 1<<day, 0, 1)
				but := row(at(1<<g.Weeks-1^1<<week, 1<<g.Days-1, 0, g.Slots), at(1<<g.Weeks-1, 1<<g.Days-1^1<<day, 0, g.Slots))
				for other := range g.Weeks * g.Days {
					if other == week*g.Days+day {
						wantBlocks(t, g, row(mine), other, 0, [2]int{1, 1})
						wantBlocks(t, g, but, other, 0)
						wantBlocks(t, g, append(but, mine), other, 0, [2]int{1, 1})
					} else {
						wantBlocks(t, g, row(mine), other, 0)
						wantBlocks(t, g, row(always(g)), other, 0, [2]int{g.Slots, 1})
					}
				}
			}
		}
	}
}

func TestBlocksOfNoDay(t *testing.T) {
	for _, g := range []api.Grid{week(), wide(), grid(1, 1, 1), grid(3, 2, 4)} {
		l, last := row(always(g)), g.Weeks*g.Days-1
		wantBlocks(t, g, l, 0, 0, [2]int{g.Slots, 1})
		wantBlocks(t, g, l, last, 0, [2]int{g.Slots, 1})
		for _, day := range append(wild(), -1, -2, last+1, last+2, last+1<<32, g.Weeks*g.Days*g.Slots) {
			for _, gap := range []int{0, 1, math.MinInt, math.MaxInt} {
				wantBlocks(t, g, l, day, gap)
			}
		}
		for day := range last + 1 {
			wantBlocks(t, g, nil, day, 0)
			wantBlocks(t, g, row(), day, math.MaxInt)
		}
	}
}

// TestEachInOneBlock: together the blocks of a day have as many as are on it.
func TestEachInOneBlock(t *testing.T) {
	r := rand.New(rand.NewSource(1))
	for range 2000 {
		g := grid(1+r.Intn(3), 1+r.Intn(3), 1+r.Intn(96))
		l := someTimes(r, g, r.Intn(20))
		for day := range g.Weeks * g.Days {
			n := 0
			for _, block := range many.Blocks(g, l, day, r.Intn(20)-1) {
				n += block[1]
			}
			if want := len(ofDay(g, l, day)); n != want {
				t.Errorf("of %v on day %d of %v there are %d in blocks, want %d", l, day, g, n, want)
			}
		}
	}
}

// P16.3: Over; with it P16.4: Broken, Least

func TestMostDays(t *testing.T) {
	three := row(at(1, 1, 0, 1), at(1, 4, 0, 1), at(2, 4, 3, 2), at(3, 1, 9, 1), at(2, 16, 5, 5))
	for _, l := range orders(three) {
		for a, want := range []int{3, 2, 1, 0, 0, 0, 0, 0} {
			wantOver(t, week(), api.MostDays, a, 0, l, want)
		}
	}
	for _, b := range append(wild(), -1, 0, 1, 5) {
		for _, a := range wild() {
			want := 3
			if a > 0 {
				want = 0
			}
			wantOver(t, week(), api.MostDays, a, b, three, want)
		}
		wantOver(t, week(), api.MostDays, -1, b, three, 3)
		wantOver(t, week(), api.MostDays, 2, b, three, 1)
		wantOver(t, week(), api.MostDays, 0, b, nil, 0)
		wantOver(t, week(), api.MostDays, math.MinInt, b, nil, 0)
	}
	for a := range 9 {
		wantOver(t, wide(), api.MostDays, a, 0, row(always(wide())), max(7-a, 0))
		wantOver(t, wide(), api.MostDays, a, 0, row(at(1<<20-1, 64, 0, 96)), max(1-a, 0))
	}
}

// TestMostLoad: day 0 has four slots, one of them twice; day 5, of the other week, three; day 1 has one, and day 6 one.
func TestMostLoad(t *testing.T) {
	l := row(slots(0, 2), slots(1, 2), slots(7, 1), at(2, 1, 2, 3), at(3, 2, 9, 1))
	for _, l := range orders(l) {
		for a, want := range []int{9, 5, 3, 1, 0, 0} {
			wantOver(t, week(), api.MostLoad, a, 0, l, want)
		}
	}
	for _, b := range append(wild(), -1, 0, 1, 5) {
		for _, a := range wild() {
			want := 9
			if a > 0 {
				want = 0
			}
			wantOver(t, week(), api.MostLoad, a, b, l, want)
		}
		wantOver(t, week(), api.MostLoad, -1, b, l, 9)
		wantOver(t, week(), api.MostLoad, 2, b, l, 3)
		wantOver(t, week(), api.MostLoad, 0, b, nil, 0)
		wantOver(t, week(), api.MostLoad, math.MinInt, b, nil, 0)
	}
	// One that is passed on one day alone, although the other days have room.
	wantOver(t, week(), api.MostLoad, 9, 0, row(at(3, 30, 0, 1), slots(0, 10)), 1)
	for a := range 98 {
		wantOver(t, wide(), api.MostLoad, a, 0, row(always(wide())), 140*max(96-a, 0))
		wantOver(t, wide(), api.MostLoad, a, 0, row(always(wide()), always(wide())), 140*max(96-a, 0))
	}
}

// TestMostBreaks: day 0 has breaks of 1, 2 and 1 slots, day 5 one of 5, days 1 and 6 one block, the other days nothing.
func TestMostBreaks(t *testing.T) {
	l := row(slots(0, 1), slots(2, 1), slots(5, 2), slots(8, 1), at(2, 1, 0, 4), at(2, 1, 9, 1), at(3, 2, 3, 3))
	want := map[int][]int{
		-1: {4, 2, 1, 0, 0}, 0: {4, 2, 1, 0, 0}, 1: {2, 0, 0}, 2: {1, 0, 0}, 3: {1, 0}, 4: {1, 0}, 5: {0, 0}, 6: {0}, 96: {0},
		math.MinInt: {4, 2, 1, 0, 0}, -1 << 32: {4, 2, 1, 0, 0}, math.MaxInt: {0, 0}, 1 << 32: {0, 0},
	}
	for b, overs := range want {
		for a, over := range overs {
			wantOver(t, week(), api.MostBreaks, a, b, l, over)
		}
		for _, a := range wild() {
			over := overs[0]
			if a > 0 {
				over = 0
			}
			wantOver(t, week(), api.MostBreaks, a, b, l, over)
		}
		for _, a := range append(wild(), -1, 0, 1) {
			wantOver(t, week(), api.MostBreaks, a, b, nil, 0)
			wantOver(t, week(), api.MostBreaks, a, b, row(slots(0, 1)), 0)
			wantOver(t, week(), api.MostBreaks, a, b, row(always(week()), slots(3, 1)), 0)
		}
	}
	for _, l := range orders(l[:5]) {
		wantOver(t, week(), api.MostBreaks, 1, 0, l, 2)
		wantOver(t, week(), api.MostBreaks, 0, 1, l, 1)
	}
	// A day without a break makes up for no other one.
	wantOver(t, week(), api.MostBreaks, 0, 0, row(at(3, 31, 0, 1), slots(2, 1)), 1)
	wantOver(t, week(), api.MostBreaks, 1, 0, row(slots(0, 1), slots(2, 1), slots(4, 1), at(2, 16, 0, 1)), 1)
}

// TestMostBreaksOfAll: as many breaks as a day has room for, on all days.
func TestMostBreaksOfAll(t *testing.T) {
	var l []api.When
	for i := range 48 {
		l = append(l, at(1<<20-1, 127, 2*i, 1))
	}
	for a := range 50 {
		wantOver(t, wide(), api.MostBreaks, a, 0, l, 140*max(47-a, 0))
		wantOver(t, wide(), api.MostBreaks, a, 1, l, 0)
	}
}

// TestMostBlock: with breaks of at most 1, day 0 has one block of 5 slots and two, one of 3 and two, day 5 one of 5 and one, days 1 and 6 one of 4 and two.
func TestMostBlock(t *testing.T) {
	l := row(slots(0, 2), slots(3, 2), slots(7, 1), slots(9, 1), at(2, 1, 2, 5), at(3, 2, 0, 3), at(3, 2, 2, 2))
	for a, over := range []int{4, 4, 4, 3, 1, 0, 0} {
		wantOver(t, week(), api.MostBlock, a, 1, l, over)
	}
	for _, a := range wild() {
		want := 4
		if a > 0 {
			want = 0
		}
		wantOver(t, week(), api.MostBlock, a, 1, l, want)
	}
	for _, b := range []int{0, -1, -5, -1 << 32, math.MinInt} {
		// Those of days 1 and 6 alone are of two.
		for a, over := range []int{2, 2, 2, 2, 0, 0} {
			wantOver(t, week(), api.MostBlock, a, b, l, over)
		}
		wantOver(t, week(), api.MostBlock, -1, b, l, 2)
	}
	for _, b := range []int{2, 3, 96, 1 << 32, math.MaxInt} {
		for a, over := range []int{3, 3, 3, 3, 1, 1, 1, 1, 1, 1, 0, 0} {
			wantOver(t, week(), api.MostBlock, a, b, l, over)
		}
	}
	for _, l := range orders(l[:5]) {
		wantOver(t, week(), api.MostBlock, 2, 1, l, 2)
		wantOver(t, week(), api.MostBlock, 3, 1, l, 1)
	}
}

// TestMostBlockOfOne: one time alone is never too long, two are, also if both are the same.
func TestMostBlockOfOne(t *testing.T) {
	for length := 1; length <= 10; length++ {
		for a := -1; a <= 11; a++ {
			wantOver(t, week(), api.MostBlock, a, 0, row(slots(0, length)), 0)
			wantOver(t, week(), api.MostBlock, a, 0, row(slots(0, length), at(2, 1, 0, length), at(1, 2, 0, length)), 0)
			over := 0
			if length > a {
				over = 1
			}
			wantOver(t, week(), api.MostBlock, a, 0, row(slots(0, length), slots(0, length)), over)
			wantOver(t, week(), api.MostBlock, a, 0, row(slots(0, length), slots(length-1, 1)), over)
			wantOver(t, week(), api.MostBlock, a, 0, row(slots(0, length), at(3, 31, 0, 1)), over)
			wantOver(t, week(), api.MostBlock, a, 0, row(at(3, 31, 0, length), at(3, 31, 0, 1)), 10*over)
		}
	}
	for _, b := range append(wild(), 0, 1) {
		for _, a := range append(wild(), 0, 1) {
			wantOver(t, week(), api.MostBlock, a, b, nil, 0)
			wantOver(t, week(), api.MostBlock, a, b, row(always(week())), 0)
		}
	}
}

// TestOverOfOtherKinds: of pairs, and of no kind.
func TestOverOfOtherKinds(t *testing.T) {
	l := row(always(week()), slots(0, 1), slots(0, 1), slots(3, 2), at(2, 1, 0, 1))
	for _, k := range append(ofPairs(), noKinds()...) {
		for _, a := range append(wild(), -1, 0, 1) {
			for _, b := range []int{math.MinInt, -1, 0, 1, math.MaxInt} {
				wantOver(t, week(), k, a, b, l, 0)
				wantOver(t, week(), k, a, b, nil, 0)
			}
		}
	}
	for _, h := range high() {
		for n := -300; n <= 300; n++ {
			wantOver(t, week(), api.RuleKind(h+n), 0, 0, l[3:], overOf(week(), api.RuleKind(h+n), 0, 0, l[3:]))
		}
	}
}

// P16.4: Broken, Least, where they go another way than Over

func TestBrokenAndLeast(t *testing.T) {
	l := row(slots(0, 2), slots(3, 2), slots(5, 1), slots(9, 1), at(2, 2, 0, 1))
	for _, c := range []struct {
		k       api.RuleKind
		a, over int
	}{
		{api.MostDays, 1, 1}, {api.MostDays, 2, 0}, {api.MostLoad, 4, 2}, {api.MostLoad, 6, 0},
		{api.MostBreaks, 0, 2}, {api.MostBreaks, 1, 1}, {api.MostBreaks, 2, 0}, {api.MostBlock, 2, 1}, {api.MostBlock, 3, 0},
	} {
		wantOver(t, week(), c.k, c.a, 0, l, c.over)
		wantBroken(t, week(), c.k, c.a, 0, l, true, c.over > 0)
		wantLeast(t, week(), c.k, c.a, 0, l, true, c.over)
		if c.k == api.MostBreaks {
			wantBroken(t, week(), c.k, c.a, 0, l, false, false)
		} else {
			wantBroken(t, week(), c.k, c.a, 0, l, false, c.over > 0)
		}
		if c.k == api.MostBreaks || c.k == api.MostBlock {
			wantLeast(t, week(), c.k, c.a, 0, l, false, 0)
		} else {
			wantLeast(t, week(), c.k, c.a, 0, l, false, c.over)
		}
	}
}

// TestWholeMatters: what comes besides may fill a break, and make one block of two.
func TestWholeMatters(t *testing.T) {
	apart := row(slots(0, 2), slots(1, 2), slots(6, 2), slots(7, 2))
	filled := append(slices.Clone(apart), slots(3, 3))
	wantOver(t, week(), api.MostBreaks, 0, 0, apart, 1)
	wantOver(t, week(), api.MostBreaks, 0, 0, filled, 0)
	wantOver(t, week(), api.MostBlock, 2, 0, apart, 2)
	wantOver(t, week(), api.MostBlock, 2, 0, filled, 1)
}

// P16.5: what is told where the row is not whole stays

// wantStays: with w at each place of l besides, Broken stays so, and Least does not fall.
func wantStays(t *testing.T, g api.Grid, k api.RuleKind, a, b int, l []api.When, w api.When) {
	t.Helper()
	broken, least := many.Broken(g, k, a, b, l, false), many.Least(g, k, a, b, l, false)
	for i := range len(l) + 1 {
		more := slices.Insert(slices.Clone(l), i, w)
		for _, whole := range []bool{false, true} {
			if broken {
				wantBroken(t, g, k, a, b, more, whole, true)
			}
			if got := many.Least(g, k, a, b, more, whole); got < least {
				t.Errorf("Least(%v, %d, %d, %d, %v, %v) = %d, without %v it was %d", g, k, a, b, more, whole, got, w, least)
			}
		}
	}
}

func TestMoreComesBesides(t *testing.T) {
	r := rand.New(rand.NewSource(2))
	for range 3000 {
		g := grid(1+r.Intn(2), 1+r.Intn(2), 1+r.Intn(9))
		l := someTimes(r, g, r.Intn(7))
		for range 3 {
			w := someTimes(r, g, 1)[0]
			for _, k := range ofMany() {
				wantStays(t, g, k, r.Intn(g.Slots+2)-1, r.Intn(g.Slots+2)-1, l, w)
				wantStays(t, g, k, r.Intn(3), r.Intn(2), l, w)
			}
		}
	}
}

// TestMoreComesBesidesEach: each time of a small day beside each two.
func TestMoreComesBesidesEach(t *testing.T) {
	g := grid(1, 1, 5)
	all := append(times(g), slots(-1, 1))
	for _, v := range all {
		for _, w := range all {
			for _, besides := range all {
				for _, k := range ofMany() {
					for a := range 4 {
						for b := range 3 {
							wantStays(t, g, k, a, b, row(v, w), besides)
						}
					}
				}
			}
		}
	}
}

// All of P16.2 to P16.4 against the chapter's words once more

func TestEachThreeOfADay(t *testing.T) {
	g := grid(1, 1, 6)
	for _, u := range times(g) {
		for _, v := range times(g) {
			for _, w := range times(g) {
				for gap := -1; gap <= 5; gap++ {
					wantBlocks(t, g, row(u, v, w), 0, gap, blocksOf(g, row(u, v, w), 0, gap)...)
				}
				wantThat(t, g, row(u, v, w), nil, []int{0, 1, 3}, []int{0, 2})
			}
		}
	}
}

func TestEachTwoOfAGrid(t *testing.T) {
	g := grid(2, 2, 3)
	for _, v := range times(g) {
		wantThat(t, g, row(v), span(-1, 4), span(-1, 4), span(-1, 3))
		for _, w := range times(g) {
			wantThat(t, g, row(v, w), span(-1, 4), span(0, 3), []int{0, 1})
		}
	}
}

// someTimes are n by chance: most of them in the grid, many of these on few days and of few slots, some wild.
func someTimes(r *rand.Rand, g api.Grid, n int) []api.When {
	out := make([]api.When, 0, n)
	for range n {
		start := r.Intn(g.Slots)
		w := at(uint32(1+r.Intn(1<<g.Weeks-1)), uint8(1+r.Intn(1<<g.Days-1)), start, 1+r.Intn(g.Slots-start))
		if r.Intn(2) == 0 {
			w.Len = 1 + r.Intn(min(3, g.Slots-start))
		}
		switch r.Intn(24) {
		case 0:
			w.Weeks = r.Uint32()
		case 1:
			w.Days = uint8(r.Intn(256))
		case 2:
			w.Start = wild()[r.Intn(len(wild()))]
		case 3:
			w.Len = wild()[r.Intn(len(wild()))]
		case 4:
			w.Start, w.Len = r.Intn(200)-50, r.Intn(200)-50
		}
		out = append(out, w)
	}
	return out
}

func anyNumber(r *rand.Rand, g api.Grid) int {
	if r.Intn(6) == 0 {
		return wild()[r.Intn(len(wild()))]
	}
	return r.Intn(g.Slots+4) - 2
}

func TestByChance(t *testing.T) {
	r := rand.New(rand.NewSource(16))
	for range 6000 {
		g := grid(1+r.Intn(3), 1+r.Intn(4), 1+r.Intn(12))
		l := someTimes(r, g, r.Intn(13))
		days := []int{r.Intn(g.Weeks*g.Days+2) - 1, 0, wild()[r.Intn(len(wild()))]}
		as, bs := []int{r.Intn(4), anyNumber(r, g)}, []int{r.Intn(3), anyNumber(r, g)}
		if r.Intn(40) == 0 {
			g = wrongGrids()[r.Intn(len(wrongGrids()))]
		}
		wantThat(t, g, l, days, as, bs)
	}
}

func TestByChanceWide(t *testing.T) {
	r := rand.New(rand.NewSource(17))
	for range 150 {
		g := grid(1+r.Intn(20), 1+r.Intn(7), 1+r.Intn(96))
		if r.Intn(3) == 0 {
			g = wide()
		}
		l := someTimes(r, g, r.Intn(13))
		wantThat(t, g, l, span(0, g.Weeks*g.Days), []int{r.Intn(4), anyNumber(r, g)}, []int{anyNumber(r, g)})
	}
}

// TestInAnyOrder: no answer tells in which order the row stands.
func TestInAnyOrder(t *testing.T) {
	r := rand.New(rand.NewSource(18))
	for range 300 {
		g := grid(1+r.Intn(2), 1+r.Intn(2), 1+r.Intn(9))
		l := someTimes(r, g, 1+r.Intn(5))
		a, b := r.Intn(4), r.Intn(3)
		for _, turned := range orders(l) {
			wantDays(t, g, turned, many.Days(g, l))
			for day := range g.Weeks * g.Days {
				wantBlocks(t, g, turned, day, b, many.Blocks(g, l, day, b)...)
			}
			for _, k := range ofMany() {
				wantOver(t, g, k, a, b, turned, many.Over(g, k, a, b, l))
			}
		}
	}
}

// R1: nothing panics, and all ends

func TestWildAll(t *testing.T) {
	for _, n := range wild() {
		for _, m := range wild() {
			l := row(at(math.MaxUint32, 255, n, m), at(1, 1, m, n), slots(0, 2), slots(5, 1))
			for _, g := range []api.Grid{grid(n, m, n), grid(m, m, m), week()} {
				wantThat(t, g, l, []int{n, 0}, []int{n, 0}, []int{m})
				for _, k := range []api.RuleKind{api.RuleKind(n), 13, 20, 25} {
					wantOver(t, g, k, n, m, l, 0)
				}
			}
		}
	}
}

// TestOfVeryMany: long rows, of times that are all alike, and of all times of a grid, end soon.
func TestOfVeryMany(t *testing.T) {
	l := make([]api.When, 100000)
	for i := range l {
		l[i] = at(1<<20-1, 127, (len(l)-i)%48*2, 1)
	}
	wantDays(t, wide(), l, 7)
	blocks := many.Blocks(wide(), l, 139, 0)
	if len(blocks) != 48 || blocks[0] != [2]int{1, 2083} || blocks[16] != [2]int{1, 2084} || blocks[47] != [2]int{1, 2083} {
		t.Errorf("there are %d blocks: %v", len(blocks), blocks)
	}
	wantBlocks(t, wide(), l, 139, 1, [2]int{95, len(l)})
	for _, c := range []struct {
		k    api.RuleKind
		want int
	}{{api.MostDays, 6}, {api.MostLoad, 140 * 47}, {api.MostBreaks, 140 * 46}, {api.MostBlock, 0}} {
		if got := many.Over(wide(), c.k, 1, 0, l); got != c.want {
			t.Errorf("Over of kind %d = %d, want %d", c.k, got, c.want)
		}
	}
}

// R4, R6: what is handed in stays, what is handed out is new, and the same again

// mixed stands in no order, and some of it may not be in the grid week.
func mixed() []api.When {
	return slices.Concat(row(slots(8, 2), slots(0, 4), slots(0, 1)), foul()[:6], row(always(week()), slots(5, 1), at(3, 6, 2, 2), slots(5, 1)))
}

func TestNothingIsChanged(t *testing.T) {
	for n := range len(mixed()) + 1 {
		// Behind the row's end there is room to spare, in which others stand.
		for _, room := range []int{0, 1, 9} {
			others := row(slots(3, 1), slots(2, 1), slots(9, 1), slots(1, 1), api.When{}, slots(0, 1), slots(7, 2), slots(4, 4), slots(6, 1))
			all := slices.Concat(mixed()[:n], others[:room])
			was := slices.Clone(all)
			l := all[:n]
			many.Days(week(), l)
			for _, day := range []int{-1, 0, 5, 9, 10} {
				many.Blocks(week(), l, day, 1)
			}
			for _, k := range append(ofMany(), 0, 13) {
				for _, whole := range []bool{false, true} {
					many.Over(week(), k, 1, 1, l)
					many.Broken(week(), k, 1, 1, l, whole)
					many.Least(week(), k, 1, 1, l, whole)
				}
			}
			if !slices.Equal(all, was) {
				t.Errorf("of %v there is now %v", was, all)
			}
		}
	}
}

// TestRowsAreNew: an answer that is written over, behind its end too, is told again as it was.
func TestRowsAreNew(t *testing.T) {
	l := mixed()
	was := slices.Clone(l)
	for day := range 10 {
		want := blocksOf(week(), l, day, 0)
		first, second := many.Blocks(week(), l, day, 0), many.Blocks(week(), l, day, 0)
		first = first[:cap(first)]
		for i := range first {
			first[i] = [2]int{-1, -1}
		}
		if !slices.Equal(second, want) {
			t.Errorf("of day %d there is %v, want %v", day, second, want)
		}
		wantBlocks(t, week(), l, day, 0, want...)
	}
	if !slices.Equal(l, was) {
		t.Errorf("of %v there is now %v", was, l)
	}
}

func TestAgain(t *testing.T) {
	look := func() []int {
		var out []int
		r := rand.New(rand.NewSource(19))
		for range 300 {
			l := someTimes(r, week(), 8)
			out = append(out, many.Days(week(), l))
			for day := range 10 {
				for _, block := range many.Blocks(week(), l, day, 1) {
					out = append(out, block[0], block[1])
				}
			}
			for _, k := range ofMany() {
				out = append(out, many.Over(week(), k, 1, 1, l), many.Least(week(), k, 1, 1, l, false))
			}
		}
		return out
	}
	if !slices.Equal(look(), look()) {
		t.Error("what was answered once is answered otherwise")
	}
}
