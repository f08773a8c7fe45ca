package pair_test

import (
	"math"
	"math/rand"
	"slices"
	"strconv"
	"strings"
	"testing"

	"horarium/api"
	"horarium/pair"
)

// wild are numbers over the int's whole range, none of them one that matters; those among them that are about 2^32 look well if they are cut short.
func wild() []int {
	return []int{math.MinInt, math.MinInt + 1, math.MinInt32 - 1, math.MinInt32, -1 << 32, -1<<32 + 1, -1<<32 - 2, -1 << 16, -97, -3, 1 << 16, math.MaxInt32, 1 << 32, 1<<32 + 1, 1<<32 + 10, 1<<62 + 1, math.MaxInt - 1, math.MaxInt}
}

// ends are the least ints and the greatest ones.
func ends() []int { return []int{math.MinInt, math.MinInt + 1, math.MaxInt - 1, math.MaxInt} }

func span(from, to int) []int {
	var out []int
	for n := from; n <= to; n++ {
		out = append(out, n)
	}
	return out
}

// kindsOfPairs are 1 to 14, one by one.
func kindsOfPairs() []api.RuleKind {
	return []api.RuleKind{
		api.SameStart, api.SameTime, api.OtherTime, api.SameDays, api.OtherDays, api.SameWeeks, api.OtherWeeks,
		api.Meet, api.Apart, api.SameRoom, api.OtherRoom, api.Before, api.Within, api.Folk,
	}
}

// timesAlone are the kinds that ask for times, and not for rooms.
func timesAlone() []api.RuleKind {
	return []api.RuleKind{
		api.SameStart, api.SameTime, api.OtherTime, api.SameDays, api.OtherDays, api.SameWeeks, api.OtherWeeks,
		api.Meet, api.Apart, api.Before, api.Within,
	}
}

func withTimes() []api.RuleKind { return append(timesAlone(), api.Folk) }

func roomsAlone() []api.RuleKind { return []api.RuleKind{api.SameRoom, api.OtherRoom} }

func ofMany() []api.RuleKind {
	return []api.RuleKind{api.MostDays, api.MostLoad, api.MostBreaks, api.MostBlock}
}

// noPairs are no kinds of pairs: those of many, and numbers that are no kind.
func noPairs() []api.RuleKind {
	out := append(ofMany(), 0, 15, 16, 19, 20, 25, 26, 100, 256+1, 1<<16+2, -1, -2, -10, -14, -21)
	for _, n := range wild() {
		out = append(out, api.RuleKind(n))
	}
	return out
}

// week has two weeks of five days of ten slots, wide the most of all.
func week() api.Grid { return api.Grid{Weeks: 2, Days: 5, Slots: 10} }

func wide() api.Grid { return api.Grid{Weeks: 20, Days: 7, Slots: 96} }

func tiny() api.Grid { return api.Grid{Weeks: 2, Days: 2, Slots: 3} }

// mid has the fewest slots in which a time may lie amid another one, and a break of two slots between two times.
func mid() api.Grid { return api.Grid{Weeks: 1, Days: 1, Slots: 6} }

func at(weeks uint32, days uint8, start, length int) api.When {
	return api.When{Weeks: weeks, Days: days, Start: start, Len: length}
}

// slots are these slots of the first day of the first week.
func slots(start, length int) api.When { return at(1, 1, start, length) }

// spot is at a time, and in no room.
func spot(w api.When) api.Spot { return api.Spot{When: w, Room: -1} }

func in(w api.When, room int) api.Spot { return api.Spot{When: w, Room: room} }

// inRoom is at no time.
func inRoom(room int) api.Spot { return api.Spot{Room: room} }

// whens are all times that may be in g.
func whens(g api.Grid) []api.When {
	var out []api.When
	for weeks := 1; weeks < 1<<g.Weeks; weeks++ {
		for days := 1; days < 1<<g.Days; days++ {
			for start := range g.Slots {
				for length := 1; start+length <= g.Slots; length++ {
					out = append(out, at(uint32(weeks), uint8(days), start, length))
				}
			}
		}
	}
	return out
}

// wrongGrids may not be, each for one reason.
func wrongGrids() []api.Grid {
	var out []api.Grid
	for _, n := range append(wild(), 0, -1, -2) {
		out = append(out, api.Grid{Weeks: n, Days: 5, Slots: 10}, api.Grid{Weeks: 2, Days: n, Slots: 10}, api.Grid{Weeks: 2, Days: 5, Slots: n}, api.Grid{Weeks: n, Days: n, Slots: n})
	}
	return append(out, api.Grid{Weeks: 21, Days: 7, Slots: 96}, api.Grid{Weeks: 20, Days: 8, Slots: 96}, api.Grid{Weeks: 20, Days: 7, Slots: 97}, api.Grid{Weeks: 32, Days: 8, Slots: 96})
}

// foul are the time w of the grid week, changed such that it may not be in it, in many ways; only the first one has no weeks.
func foul(w api.When) []api.When {
	but := func(change func(*api.When)) api.When {
		out := w
		change(&out)
		return out
	}
	out := []api.When{but(func(w *api.When) { w.Weeks = 0 })}
	for _, weeks := range []uint32{4, 8, 1 << 20, 1 << 31, math.MaxUint32, w.Weeks | 4, w.Weeks | 1<<31} {
		out = append(out, but(func(w *api.When) { w.Weeks = weeks }))
	}
	for _, days := range []uint8{0, 32, 64, 128, 255, w.Days | 32, w.Days | 128} {
		out = append(out, but(func(w *api.When) { w.Days = days }))
	}
	for _, n := range append(wild(), -1, -2, -10, 11, 96, 97) {
		out = append(out, but(func(w *api.When) { w.Start = n }), but(func(w *api.When) { w.Len = n }))
	}
	for _, n := range append(wild(), 0, -1, -2) {
		out = append(out, but(func(w *api.When) { w.Len = n }))
	}
	return append(out,
		but(func(w *api.When) { w.Start = 10 - w.Len + 1 }), but(func(w *api.When) { w.Len = 10 - w.Start + 1 }),
		but(func(w *api.When) { w.Start, w.Len = math.MinInt, math.MaxInt }), but(func(w *api.When) { w.Start, w.Len = math.MaxInt, math.MaxInt }),
		but(func(w *api.When) { w.Start, w.Len = math.MinInt, math.MinInt }), but(func(w *api.When) { w.Start, w.Len = 10, 0 }),
		but(func(w *api.When) { w.Start, w.Len = -3, 13 }),
	)
}

// The chapter's words once more, by means of their own

// isIn counts the moments that a time would have, and asks that there be any, and none outside the grid.
func isIn(g api.Grid, w api.When) bool {
	if g.Weeks < 1 || g.Weeks > 20 || g.Days < 1 || g.Days > 7 || g.Slots < 1 || g.Slots > 96 {
		return false
	}
	if w.Start < 0 || w.Start > 95 || w.Len < 1 || w.Len > 96 || w.Start+w.Len > g.Slots {
		return false
	}
	inside := func(mask uint64, all int) bool {
		return mask != 0 && mask < uint64(math.Pow(2, float64(all)))
	}
	return inside(uint64(w.Weeks), g.Weeks) && inside(uint64(w.Days), g.Days)
}

func hasWeek(w api.When, i int) bool { return w.Weeks/uint32(math.Pow(2, float64(i)))%2 == 1 }

func hasDay(w api.When, i int) bool { return w.Days/uint8(math.Pow(2, float64(i)))%2 == 1 }

func hasSlot(w api.When, i int) bool {
	for n := range w.Len {
		if w.Start+n == i {
			return true
		}
	}
	return false
}

// some is what two have of the first n of a thing, the one's has and the other's.
type some struct{ one, other, both int }

func count(n int, one, other func(int) bool) some {
	var s some
	for i := range n {
		if one(i) {
			s.one++
		}
		if other(i) {
			s.other++
		}
		if one(i) && other(i) {
			s.both++
		}
	}
	return s
}

func (s some) same() bool { return s.both == s.one || s.both == s.other }

func ofSlots(g api.Grid, v, w api.When) some {
	return count(g.Slots, func(i int) bool { return hasSlot(v, i) }, func(i int) bool { return hasSlot(w, i) })
}

func ofDays(g api.Grid, v, w api.When) some {
	return count(g.Days, func(i int) bool { return hasDay(v, i) }, func(i int) bool { return hasDay(w, i) })
}

func ofWeeks(g api.Grid, v, w api.When) some {
	return count(g.Weeks, func(i int) bool { return hasWeek(v, i) }, func(i int) bool { return hasWeek(w, i) })
}

// momentsOf are told by the numbers of all slots of all weeks.
func momentsOf(g api.Grid, w api.When) []int {
	var out []int
	for i := range g.Weeks * g.Days * g.Slots {
		if hasWeek(w, i/(g.Slots*g.Days)) && hasDay(w, i/g.Slots%g.Days) && hasSlot(w, i%g.Slots) {
			out = append(out, i)
		}
	}
	return out
}

// onDays are the moments of each day of the grid.
func onDays(g api.Grid, w api.When) map[int][]int {
	out := map[int][]int{}
	for _, m := range momentsOf(g, w) {
		out[m/g.Slots] = append(out[m/g.Slots], m)
	}
	return out
}

func isMeeting(g api.Grid, v, w api.When) bool {
	theirs := momentsOf(g, w)
	return slices.ContainsFunc(momentsOf(g, v), func(m int) bool { return slices.Contains(theirs, m) })
}

// firstOf are the moments of a time's first meeting.
func firstOf(g api.Grid, w api.When) []int {
	all := momentsOf(g, w)
	return slices.DeleteFunc(all, func(m int) bool { return m/g.Slots != all[0]/g.Slots })
}

func isWithin(g api.Grid, v, w api.When, a int) bool {
	theirs := onDays(g, w)
	for day, mine := range onDays(g, v) {
		if len(theirs[day]) == 0 {
			continue
		}
		both := slices.Concat(mine, theirs[day])
		if slices.Max(both)-slices.Min(both)+1 > a {
			return false
		}
	}
	return true
}

// isReached counts the slots between the two of each day.
func isReached(g api.Grid, v, w api.When, walk int) bool {
	theirs := onDays(g, w)
	for day, mine := range onDays(g, v) {
		if len(theirs[day]) == 0 {
			continue
		}
		first, second := mine, theirs[day]
		if first[0] > second[0] {
			first, second = second, first
		}
		if free := second[0] - first[len(first)-1] - 1; free < 0 || free < walk {
			return false
		}
	}
	return true
}

func isHeld(g api.Grid, k api.RuleKind, a int, x, y api.Spot, walk int) bool {
	v, w := x.When, y.When
	if k != api.SameRoom && k != api.OtherRoom && !(isIn(g, v) && isIn(g, w)) {
		return false
	}
	one := x.Room == y.Room && x.Room > -1
	switch k {
	case 1:
		return momentsOf(g, v)[0]%g.Slots == momentsOf(g, w)[0]%g.Slots
	case 2:
		return ofSlots(g, v, w).same()
	case 3:
		return ofSlots(g, v, w).both == 0
	case 4:
		return ofDays(g, v, w).same()
	case 5:
		return ofDays(g, v, w).both == 0
	case 6:
		return ofWeeks(g, v, w).same()
	case 7:
		return ofWeeks(g, v, w).both == 0
	case 8:
		return isMeeting(g, v, w)
	case 9:
		return !isMeeting(g, v, w)
	case 10:
		return one
	case 11:
		return !one
	case 12:
		return slices.Max(firstOf(g, v)) < slices.Min(firstOf(g, w))
	case 13:
		return isWithin(g, v, w, a)
	case 14:
		return isReached(g, v, w, walk)
	}
	return false
}

func isNever(g api.Grid, k api.RuleKind, a int, x, y api.Spot, walk int) bool {
	times := x.When.Weeks > 0 && y.When.Weeks > 0
	rooms := x.Room != -2 && y.Room != -2
	held := isHeld(g, k, a, x, y, walk)
	if k < 1 || k > 14 {
		return false
	}
	switch k {
	case 10:
		return x.Room == -1 || y.Room == -1 || rooms && !held
	case 11:
		return rooms && !held
	case 14:
		return times && (!isHeld(g, k, a, x, y, 0) || !held && rooms)
	}
	return times && !held
}

// What is wanted

func wantHolds(t *testing.T, g api.Grid, k api.RuleKind, a int, x, y api.Spot, walk int, want bool) {
	t.Helper()
	if got := pair.Holds(g, k, a, x, y, walk); got != want {
		t.Errorf("Holds(%v, %d, %d, %v, %v, %d) = %v", g, k, a, x, y, walk, got)
	}
}

func wantNever(t *testing.T, g api.Grid, k api.RuleKind, a int, x, y api.Spot, walk int, want bool) {
	t.Helper()
	if got := pair.Never(g, k, a, x, y, walk); got != want {
		t.Errorf("Never(%v, %d, %d, %v, %v, %d) = %v", g, k, a, x, y, walk, got)
	}
}

// wantOne: of these two, this way round, in the grid week; and Never tells the other thing, as all is known.
func wantOne(t *testing.T, k api.RuleKind, a int, v, w api.When, walk int, want bool) {
	t.Helper()
	for _, rooms := range [][2]int{{-1, -1}, {0, 0}, {0, 1}, {1, -1}} {
		x, y := in(v, rooms[0]), in(w, rooms[1])
		wantHolds(t, week(), k, a, x, y, walk, want)
		wantNever(t, week(), k, a, x, y, walk, !want)
	}
}

// wantBoth: both ways round.
func wantBoth(t *testing.T, k api.RuleKind, a int, v, w api.When, walk int, want bool) {
	t.Helper()
	wantOne(t, k, a, v, w, walk, want)
	wantOne(t, k, a, w, v, walk, want)
}

// wantPlain: of a kind that asks for no number and no walk: both ways round, whatever these are.
func wantPlain(t *testing.T, k api.RuleKind, v, w api.When, want bool) {
	t.Helper()
	for _, n := range []int{0, 1, -1, 100, math.MinInt, math.MaxInt} {
		wantBoth(t, k, n, v, w, 0, want)
		wantBoth(t, k, 0, v, w, n, want)
	}
}

// wantThat: what the chapter's words tell.
func wantThat(t *testing.T, g api.Grid, k api.RuleKind, a int, x, y api.Spot, walk int) {
	t.Helper()
	wantHolds(t, g, k, a, x, y, walk, isHeld(g, k, a, x, y, walk))
	wantNever(t, g, k, a, x, y, walk, isNever(g, k, a, x, y, walk))
}

func wantKnown(t *testing.T, k api.RuleKind, want bool) {
	t.Helper()
	if got := pair.Known(k); got != want {
		t.Errorf("Known(%d) = %v", k, got)
	}
}

func wantNeeds(t *testing.T, k api.RuleKind, times, rooms bool) {
	t.Helper()
	if gotTimes, gotRooms := pair.Needs(k); gotTimes != times || gotRooms != rooms {
		t.Errorf("Needs(%d) = %v, %v", k, gotTimes, gotRooms)
	}
}

func wantTurns(t *testing.T, k api.RuleKind, want bool) {
	t.Helper()
	if got := pair.Turns(k); got != want {
		t.Errorf("Turns(%d) = %v", k, got)
	}
}

func wantName(t *testing.T, k api.RuleKind, want string) {
	t.Helper()
	if got := pair.Name(k); got != want {
		t.Errorf("Name(%d) = %q, want %q", k, got, want)
	}
}

func wantKind(t *testing.T, s string, want api.RuleKind, found bool) {
	t.Helper()
	if got, ok := pair.Kind(s); got != want || ok != found {
		t.Errorf("Kind(%q) = %d, %v, want %d, %v", s, got, ok, want, found)
	}
}

// The chapter's examples

func TestExample(t *testing.T) {
	wantBoth(t, api.SameTime, 0, slots(0, 4), slots(1, 2), 0, true)
	wantBoth(t, api.Within, 4, slots(0, 2), slots(3, 2), 0, false)
	wantBoth(t, api.Within, 5, slots(0, 2), slots(3, 2), 0, true)
}

// P15.1: Known, Needs, Turns

func TestKinds(t *testing.T) {
	for _, k := range timesAlone() {
		wantKnown(t, k, true)
		wantNeeds(t, k, true, false)
		wantTurns(t, k, k != api.Before)
	}
	for _, k := range roomsAlone() {
		wantKnown(t, k, true)
		wantNeeds(t, k, false, true)
		wantTurns(t, k, true)
	}
	wantKnown(t, api.Folk, true)
	wantNeeds(t, api.Folk, true, true)
	wantTurns(t, api.Folk, true)
	wantTurns(t, api.Before, false)
}

func TestNoKinds(t *testing.T) {
	for _, k := range noPairs() {
		wantKnown(t, k, false)
		wantNeeds(t, k, false, false)
		wantTurns(t, k, false)
	}
}

// TestKindsByNumber: numbers about all kinds, also such as end in a kind's bits.
func TestKindsByNumber(t *testing.T) {
	for _, high := range []int{0, 1 << 8, 1 << 16, 1 << 32, -1 << 8, -1 << 16, -1 << 32, math.MinInt} {
		for n := -300; n <= 300; n++ {
			k := api.RuleKind(high + n)
			known := k >= 1 && k <= 14
			wantKnown(t, k, known)
			wantNeeds(t, k, known && k != 10 && k != 11, k == 10 || k == 11 || k == 14)
			wantTurns(t, k, known && k != 12)
		}
	}
}

// P15.2: Holds

// TestHoldsOfNoKind: also of spots of which each kind of pairs holds, or does not.
func TestHoldsOfNoKind(t *testing.T) {
	times := []api.When{slots(0, 1), slots(0, 4), slots(5, 2), at(2, 2, 0, 4), at(3, 31, 0, 10), {}}
	for _, k := range noPairs() {
		for _, v := range times {
			for _, w := range times {
				for room := -2; room <= 1; room++ {
					for _, n := range []int{-1, 0, 20, math.MaxInt} {
						wantHolds(t, week(), k, n, in(v, 0), in(w, room), n, false)
						wantNever(t, week(), k, n, in(v, 0), in(w, room), n, false)
						wantNever(t, week(), k, n, in(v, room), in(w, -1), n, false)
					}
				}
			}
		}
	}
}

// heldBy are two times of the grid week, and a and a walk, of which a kind holds.
func heldBy(k api.RuleKind) (v, w api.When, a, walk int) {
	switch k {
	case api.SameStart, api.SameTime, api.SameDays, api.SameWeeks, api.Meet:
		return at(3, 5, 2, 3), at(3, 5, 2, 3), 0, 0
	case api.OtherTime, api.OtherDays, api.OtherWeeks, api.Apart, api.Before:
		return at(1, 1, 1, 2), at(2, 2, 4, 3), 0, 0
	case api.Within:
		return at(3, 3, 1, 2), at(2, 2, 4, 3), 6, 0
	}
	return at(3, 3, 1, 2), at(2, 2, 5, 3), 0, 2
}

// TestHoldsNotInGrid: one of the two may not be in the grid, or both may not.
func TestHoldsNotInGrid(t *testing.T) {
	for _, k := range withTimes() {
		v, w, a, walk := heldBy(k)
		wantOne(t, k, a, v, w, walk, true)
		for _, wrong := range foul(v) {
			wantHolds(t, week(), k, a, spot(wrong), spot(w), walk, false)
			wantHolds(t, week(), k, math.MaxInt, spot(wrong), spot(wrong), math.MinInt, false)
		}
		for _, wrong := range foul(w) {
			wantHolds(t, week(), k, a, spot(v), spot(wrong), walk, false)
		}
		for i, wrong := range foul(v) {
			wantHolds(t, week(), k, math.MaxInt, spot(wrong), spot(foul(w)[i]), math.MinInt, false)
		}
	}
}

// TestHoldsAlikeNotInGrid: each kind, of each two times that may not be, of which it would hold else.
func TestHoldsAlikeNotInGrid(t *testing.T) {
	good := []api.When{at(3, 5, 2, 3), at(1, 1, 0, 1), at(2, 2, 4, 3), at(2, 16, 9, 1)}
	for _, k := range withTimes() {
		for _, v := range good {
			for _, wrong := range foul(v) {
				for _, w := range good {
					wantHolds(t, week(), k, 1000, spot(w), spot(wrong), 0, false)
					wantHolds(t, week(), k, 1000, spot(wrong), spot(w), 0, false)
				}
			}
		}
	}
}

// TestRoomsWithoutTimes: kinds that do not ask for times do not look at them, nor at the grid.
func TestRoomsWithoutTimes(t *testing.T) {
	v := at(3, 5, 2, 3)
	for _, wrong := range foul(v) {
		for _, g := range append(wrongGrids(), week(), wide(), api.Grid{}) {
			for _, two := range [][2]api.When{{wrong, v}, {v, wrong}, {wrong, wrong}, {{}, {}}, {v, v}} {
				wantHolds(t, g, api.SameRoom, 0, in(two[0], 3), in(two[1], 3), 0, true)
				wantHolds(t, g, api.SameRoom, 0, in(two[0], 3), in(two[1], 4), 0, false)
				wantHolds(t, g, api.OtherRoom, 0, in(two[0], 3), in(two[1], 4), 0, true)
				wantHolds(t, g, api.OtherRoom, 0, in(two[0], 3), in(two[1], 3), 0, false)
			}
		}
	}
}

func TestHoldsInNoGrid(t *testing.T) {
	for _, g := range wrongGrids() {
		for _, k := range withTimes() {
			v, w, a, walk := heldBy(k)
			wantHolds(t, g, k, a, spot(v), spot(w), walk, false)
			wantNever(t, g, k, a, spot(v), spot(w), walk, true)
			wantNever(t, g, k, a, spot(v), spot(api.When{}), walk, false)
		}
	}
}

// TestInItsGrid: the same times may be in one grid, and not in one that is less by one.
func TestInItsGrid(t *testing.T) {
	full := at(3, 31, 0, 10)
	less := []api.Grid{{Weeks: 1, Days: 5, Slots: 10}, {Weeks: 2, Days: 4, Slots: 10}, {Weeks: 2, Days: 5, Slots: 9}}
	for _, k := range []api.RuleKind{api.SameStart, api.SameTime, api.SameDays, api.SameWeeks, api.Meet, api.Within} {
		for _, w := range []api.When{full, slots(0, 10), at(3, 1, 0, 10), at(1, 31, 0, 10)} {
			wantHolds(t, week(), k, 10, spot(w), spot(full), 0, true)
			for _, g := range less {
				wantHolds(t, g, k, 10, spot(w), spot(full), 0, false)
				wantHolds(t, g, k, 10, spot(full), spot(w), 0, false)
			}
		}
	}
}

func TestSameStart(t *testing.T) {
	for start := range 10 {
		for length := 1; start+length <= 10; length++ {
			for other := 1; start+other <= 10; other++ {
				wantPlain(t, api.SameStart, slots(start, length), slots(start, other), true)
				wantPlain(t, api.SameStart, at(1, 3, start, length), at(2, 4, start, other), true)
			}
		}
	}
	for start := range 9 {
		for length := 1; start+length <= 10; length++ {
			wantPlain(t, api.SameStart, slots(start, length), slots(start+1, 1), false)
			wantPlain(t, api.SameStart, slots(start, length), slots(start+1, 9-start), false)
		}
	}
	wantPlain(t, api.SameStart, slots(0, 10), slots(9, 1), false)
	// The ends are the same, the starts are not.
	wantPlain(t, api.SameStart, slots(4, 4), slots(5, 3), false)
	wantHolds(t, wide(), api.SameStart, 0, spot(at(1<<19, 64, 95, 1)), spot(at(1, 1, 95, 1)), 0, true)
}

func TestSameTime(t *testing.T) {
	for _, inside := range []api.When{slots(3, 4), slots(3, 1), slots(3, 3), slots(4, 1), slots(4, 2), slots(5, 2), slots(6, 1)} {
		wantPlain(t, api.SameTime, slots(3, 4), inside, true)
	}
	for _, out := range []api.When{slots(2, 1), slots(2, 2), slots(2, 4), slots(4, 4), slots(6, 2), slots(7, 1), slots(7, 3), slots(0, 3), slots(0, 1), slots(9, 1)} {
		wantPlain(t, api.SameTime, slots(3, 4), out, false)
	}
	for _, around := range []api.When{slots(3, 5), slots(2, 5), slots(2, 6), slots(0, 10), slots(0, 7), slots(3, 7)} {
		wantPlain(t, api.SameTime, slots(3, 4), around, true)
	}
	// Neither days nor weeks matter.
	wantPlain(t, api.SameTime, at(1, 1, 0, 4), at(2, 16, 1, 2), true)
	wantPlain(t, api.SameTime, at(1, 3, 0, 4), at(3, 6, 3, 2), false)
}

func TestOtherTime(t *testing.T) {
	for _, out := range []api.When{slots(0, 3), slots(2, 1), slots(0, 2), slots(1, 1), slots(7, 1), slots(7, 3), slots(8, 1), slots(8, 2)} {
		wantPlain(t, api.OtherTime, slots(3, 4), out, true)
	}
	for _, sharing := range []api.When{slots(0, 4), slots(3, 1), slots(2, 2), slots(6, 1), slots(6, 4), slots(4, 2), slots(3, 4), slots(0, 10)} {
		wantPlain(t, api.OtherTime, slots(3, 4), sharing, false)
	}
	wantPlain(t, api.OtherTime, at(1, 1, 3, 4), at(2, 16, 6, 1), false)
	wantPlain(t, api.OtherTime, at(1, 1, 3, 4), at(2, 16, 7, 1), true)
	wantPlain(t, api.OtherTime, at(3, 31, 3, 4), at(3, 31, 7, 1), true)
}

// masks are the bits of two, and whether all of one are the other's, and whether some are both's.
type masks struct {
	one, other   int
	among, share bool
}

// ofBits have at most five bits.
func ofBits() []masks {
	return []masks{
		{1, 1, true, true}, {16, 16, true, true}, {31, 31, true, true}, {5, 5, true, true}, {1, 31, true, true}, {16, 31, true, true},
		{5, 7, true, true}, {5, 21, true, true}, {4, 14, true, true}, {17, 31, true, true},
		{1, 2, false, false}, {1, 16, false, false}, {15, 16, false, false}, {1, 30, false, false}, {21, 10, false, false}, {4, 8, false, false},
		{3, 6, false, true}, {3, 5, false, true}, {17, 24, false, true}, {24, 20, false, true}, {15, 30, false, true}, {17, 3, false, true}, {14, 21, false, true},
	}
}

func TestDays(t *testing.T) {
	for _, m := range ofBits() {
		one, other := uint8(m.one), uint8(m.other)
		for _, rest := range [][2]api.When{{at(1, 0, 2, 3), at(1, 0, 2, 3)}, {at(1, 0, 0, 3), at(2, 0, 5, 1)}, {at(3, 0, 1, 9), at(1, 0, 0, 1)}} {
			v, w := rest[0], rest[1]
			v.Days, w.Days = one, other
			wantPlain(t, api.SameDays, v, w, m.among)
			wantPlain(t, api.OtherDays, v, w, !m.share)
		}
	}
}

func TestWeeks(t *testing.T) {
	g := api.Grid{Weeks: 5, Days: 5, Slots: 10}
	for _, m := range ofBits() {
		one, other := uint32(m.one), uint32(m.other)
		for _, rest := range [][2]api.When{{at(0, 1, 2, 3), at(0, 1, 2, 3)}, {at(0, 1, 0, 3), at(0, 2, 5, 1)}, {at(0, 3, 1, 9), at(0, 1, 0, 1)}} {
			v, w := rest[0], rest[1]
			v.Weeks, w.Weeks = one, other
			for _, two := range [][2]api.Spot{{spot(v), spot(w)}, {spot(w), spot(v)}} {
				wantHolds(t, g, api.SameWeeks, 0, two[0], two[1], 0, m.among)
				wantNever(t, g, api.SameWeeks, 0, two[0], two[1], 0, !m.among)
				wantHolds(t, g, api.OtherWeeks, 0, two[0], two[1], 0, !m.share)
				wantNever(t, g, api.OtherWeeks, 0, two[0], two[1], 0, m.share)
			}
		}
	}
}

// TestLastBits: each day of seven and each week of twenty, alone, beside each other one, and beside all others.
func TestLastBits(t *testing.T) {
	look := func(one, other api.When, same, others api.RuleKind, among, share bool) {
		wantHolds(t, wide(), same, 0, spot(one), spot(other), 0, among)
		wantHolds(t, wide(), same, 0, spot(other), spot(one), 0, among)
		wantHolds(t, wide(), others, 0, spot(one), spot(other), 0, !share)
		wantHolds(t, wide(), others, 0, spot(other), spot(one), 0, !share)
	}
	for i := range 7 {
		for j := range 7 {
			look(at(1, 1<<i, 0, 1), at(1, 1<<j, 0, 1), api.SameDays, api.OtherDays, i == j, i == j)
			look(at(1, 1<<i, 0, 1), at(1, 127^1<<j, 0, 1), api.SameDays, api.OtherDays, i != j, i != j)
			look(at(1, 127^1<<i, 0, 1), at(1, 127^1<<j, 0, 1), api.SameDays, api.OtherDays, i == j, true)
		}
	}
	for i := range 20 {
		for j := range 20 {
			look(at(1<<i, 1, 0, 1), at(1<<j, 1, 0, 1), api.SameWeeks, api.OtherWeeks, i == j, i == j)
			look(at(1<<i, 1, 0, 1), at(1<<20-1^1<<j, 1, 0, 1), api.SameWeeks, api.OtherWeeks, i != j, i != j)
			look(at(1<<20-1^1<<i, 1, 0, 1), at(1<<20-1^1<<j, 1, 0, 1), api.SameWeeks, api.OtherWeeks, i == j, true)
		}
	}
}

// TestMeet: they share slots, days, weeks, or not, in all ways.
func TestMeet(t *testing.T) {
	for share := range 8 {
		for _, all := range []bool{false, true} {
			v, w := at(1, 5, 2, 3), at(2, 10, 5, 2)
			if share&1 != 0 {
				w.Start = 4
				if all {
					w.Start, w.Len = 2, 3
				}
			}
			if share&2 != 0 {
				w.Days = 6
				if all {
					w.Days = 5
				}
			}
			if share&4 != 0 {
				w.Weeks = 3
				if all {
					w.Weeks = 1
				}
			}
			wantPlain(t, api.Meet, v, w, share == 7)
			wantPlain(t, api.Apart, v, w, share != 7)
		}
	}
	w := at(3, 31, 0, 10)
	wantPlain(t, api.Meet, w, at(2, 16, 9, 1), true)
	wantPlain(t, api.Apart, w, at(1, 1, 0, 1), false)
	wantPlain(t, api.Meet, slots(0, 5), slots(5, 5), false)
	wantPlain(t, api.Apart, slots(0, 5), slots(5, 5), true)
}

// TestRooms: each two numbers; only the same one from 0 on is one room.
func TestRooms(t *testing.T) {
	rooms := append(wild(), -5, -4, -3, -2, -1, 0, 1, 2, 23, 24, 255, 256)
	for _, i := range rooms {
		for _, j := range rooms {
			one := i == j && i >= 0
			for _, w := range []api.When{{}, slots(0, 2)} {
				for _, n := range []int{0, -1, math.MinInt, math.MaxInt} {
					wantHolds(t, week(), api.SameRoom, n, in(w, i), in(w, j), n, one)
					wantHolds(t, week(), api.OtherRoom, n, in(w, i), in(w, j), n, !one)
				}
			}
		}
	}
}

func TestSameRoom(t *testing.T) {
	for _, two := range [][2]int{{0, 0}, {1, 1}, {23, 23}, {math.MaxInt, math.MaxInt}} {
		wantHolds(t, week(), api.SameRoom, 0, inRoom(two[0]), inRoom(two[1]), 0, true)
		wantHolds(t, week(), api.OtherRoom, 0, inRoom(two[0]), inRoom(two[1]), 0, false)
	}
	for _, two := range [][2]int{{0, 1}, {1, 0}, {-1, 0}, {-1, 1}, {1, -1}, {-1, -1}, {-2, 0}, {0, -2}, {-2, -2}, {-2, -1}, {-1, -2}, {-3, -3}, {math.MinInt, math.MinInt}, {math.MinInt, math.MaxInt}} {
		wantHolds(t, week(), api.SameRoom, 0, inRoom(two[0]), inRoom(two[1]), 0, false)
		wantHolds(t, week(), api.OtherRoom, 0, inRoom(two[0]), inRoom(two[1]), 0, true)
	}
}

// wantBefore: the one is before the other, and not the other way round.
func wantBefore(t *testing.T, v, w api.When) {
	t.Helper()
	for _, n := range []int{0, -1, 5, math.MinInt, math.MaxInt} {
		wantOne(t, api.Before, n, v, w, n, true)
		wantOne(t, api.Before, n, w, v, n, false)
	}
}

func TestBefore(t *testing.T) {
	wantBefore(t, slots(0, 2), slots(2, 2))
	wantBefore(t, slots(0, 2), slots(3, 2))
	wantBefore(t, slots(0, 1), slots(9, 1))
	wantBefore(t, at(1, 1, 0, 10), at(1, 2, 0, 10))
	wantBefore(t, at(1, 1, 9, 1), at(1, 2, 0, 1))
	wantBefore(t, at(1, 1, 5, 1), at(1, 16, 2, 1))
	wantBefore(t, at(1, 16, 9, 1), at(2, 1, 0, 1))
	wantBefore(t, at(1, 16, 9, 1), at(2, 16, 9, 1))
	// The first meeting alone matters, whatever comes behind it.
	wantBefore(t, at(3, 31, 0, 2), at(1, 1, 2, 2))
	wantBefore(t, at(3, 31, 0, 2), at(1, 3, 2, 2))
	wantBefore(t, at(3, 31, 0, 2), at(3, 31, 2, 8))
	wantBefore(t, at(3, 17, 9, 1), at(3, 18, 0, 1))
	wantBefore(t, at(1, 16, 5, 5), at(2, 3, 0, 5))
	wantBefore(t, at(3, 16, 5, 5), at(2, 31, 0, 5))
	wantHolds(t, wide(), api.Before, 0, spot(at(1<<19, 64, 94, 1)), spot(at(1<<19, 64, 95, 1)), 0, true)
	wantHolds(t, wide(), api.Before, 0, spot(at(1<<19, 64, 95, 1)), spot(at(1<<19, 64, 94, 1)), 0, false)
}

func TestNotBefore(t *testing.T) {
	for _, two := range [][2]api.When{
		{slots(0, 2), slots(1, 2)}, {slots(0, 3), slots(2, 2)}, {slots(0, 10), slots(9, 1)}, {slots(0, 10), slots(4, 2)}, {slots(0, 1), slots(0, 1)}, {slots(4, 2), slots(4, 3)},
		{at(3, 31, 1, 2), at(1, 1, 2, 2)}, {at(3, 31, 0, 2), at(3, 1, 1, 1)}, {at(1, 1, 0, 3), at(3, 31, 2, 1)},
	} {
		wantPlain(t, api.Before, two[0], two[1], false)
	}
	for _, w := range whens(week()) {
		wantHolds(t, week(), api.Before, 0, spot(w), spot(w), 0, false)
	}
}

// wantSpan: on the days that they share there are n slots from the first one to the last one.
func wantSpan(t *testing.T, v, w api.When, n int) {
	t.Helper()
	for a := -2; a <= 12; a++ {
		wantBoth(t, api.Within, a, v, w, 0, a >= n)
		wantBoth(t, api.Within, a, v, w, a*7, a >= n)
	}
	for _, a := range wild() {
		wantBoth(t, api.Within, a, v, w, 0, a > 0)
	}
}

func TestWithin(t *testing.T) {
	wantSpan(t, slots(0, 1), slots(0, 1), 1)
	wantSpan(t, slots(9, 1), slots(9, 1), 1)
	wantSpan(t, slots(0, 2), slots(3, 2), 5)
	wantSpan(t, slots(0, 2), slots(2, 2), 4)
	wantSpan(t, slots(0, 2), slots(1, 2), 3)
	wantSpan(t, slots(0, 1), slots(9, 1), 10)
	wantSpan(t, slots(0, 10), slots(4, 1), 10)
	wantSpan(t, slots(2, 5), slots(3, 2), 5)
	wantSpan(t, slots(2, 5), slots(2, 3), 5)
	wantSpan(t, slots(2, 5), slots(4, 3), 5)
	wantSpan(t, at(3, 31, 1, 2), at(2, 16, 6, 2), 7)
	wantSpan(t, at(3, 3, 1, 2), at(1, 6, 6, 2), 7)
}

// TestWithinNoDay: they share no day, so that no number of slots is too many.
func TestWithinNoDay(t *testing.T) {
	for _, two := range [][2]api.When{
		{at(1, 1, 0, 1), at(1, 2, 9, 1)}, {at(1, 1, 0, 1), at(2, 1, 9, 1)}, {at(1, 31, 0, 10), at(2, 31, 0, 10)},
		{at(3, 5, 0, 10), at(3, 10, 0, 10)}, {at(1, 1, 0, 5), at(2, 2, 0, 5)},
	} {
		for _, a := range append(wild(), -2, -1, 0, 1, 2, 9, 10, 11, 96) {
			wantBoth(t, api.Within, a, two[0], two[1], 0, true)
		}
	}
}

func TestWithinWide(t *testing.T) {
	x, y := spot(at(1<<20-1, 127, 0, 1)), spot(at(1<<19, 64, 95, 1))
	for _, a := range []int{95, 96, 97} {
		wantHolds(t, wide(), api.Within, a, x, y, 0, a >= 96)
		wantHolds(t, wide(), api.Within, a, y, x, 0, a >= 96)
	}
}

// wantBreak: there are n slots between the two on each day that they share.
func wantBreak(t *testing.T, v, w api.When, n int) {
	t.Helper()
	for walk := -2; walk <= 12; walk++ {
		wantBoth(t, api.Folk, 0, v, w, walk, walk <= n)
		wantBoth(t, api.Folk, walk*7, v, w, walk, walk <= n)
	}
	for _, walk := range wild() {
		wantBoth(t, api.Folk, 0, v, w, walk, walk < 0)
	}
}

func TestFolk(t *testing.T) {
	wantBreak(t, slots(0, 2), slots(2, 2), 0)
	wantBreak(t, slots(0, 2), slots(3, 2), 1)
	wantBreak(t, slots(0, 2), slots(4, 2), 2)
	wantBreak(t, slots(0, 1), slots(9, 1), 8)
	wantBreak(t, at(3, 31, 0, 2), at(2, 16, 6, 2), 4)
	wantBreak(t, at(3, 3, 6, 2), at(1, 6, 1, 2), 3)
}

// TestFolkAtOnce: they share a moment, so that no walk is short enough.
func TestFolkAtOnce(t *testing.T) {
	for _, two := range [][2]api.When{
		{slots(0, 2), slots(1, 2)}, {slots(0, 1), slots(0, 1)}, {slots(0, 10), slots(9, 1)}, {at(3, 31, 2, 3), at(2, 16, 4, 1)}, {slots(3, 4), slots(4, 1)},
	} {
		for _, walk := range append(wild(), span(-3, 97)...) {
			wantBoth(t, api.Folk, 0, two[0], two[1], walk, false)
		}
	}
}

// TestFolkNoDay: they share no day, so that no walk is too long.
func TestFolkNoDay(t *testing.T) {
	for _, two := range [][2]api.When{
		{at(1, 1, 0, 1), at(1, 2, 0, 1)}, {at(1, 1, 0, 1), at(2, 1, 1, 1)}, {at(1, 31, 0, 10), at(2, 31, 0, 10)}, {at(3, 5, 0, 10), at(3, 10, 0, 10)},
	} {
		for _, walk := range append(wild(), span(-3, 97)...) {
			wantBoth(t, api.Folk, 0, two[0], two[1], walk, true)
		}
	}
}

// P15.3: Never

// unknown are times that are not known, whatever else stands in them.
func unknown() []api.When {
	return []api.When{{}, at(0, 1, 0, 1), at(0, 5, 2, 3), at(0, 255, 0, 10), at(0, 0, -1, 0), at(0, 31, math.MinInt, math.MaxInt), at(0, 0, 5, 5)}
}

// notHeldBy are two times of the grid week, and a and a walk, of which a kind does not hold; Folk with a walk of 0 neither.
func notHeldBy(k api.RuleKind) (v, w api.When, a, walk int) {
	switch k {
	case api.SameStart, api.SameTime, api.SameDays, api.SameWeeks, api.Meet:
		return at(1, 1, 1, 2), at(2, 2, 4, 3), 0, 0
	}
	return at(3, 5, 2, 3), at(3, 5, 2, 3), 2, 0
}

// TestNeverTimes: both known, one of them, none; of kinds that ask for times alone whatever is known of rooms.
func TestNeverTimes(t *testing.T) {
	for _, k := range withTimes() {
		v, w, a, walk := heldBy(k)
		no, nor, b, step := notHeldBy(k)
		for i := -3; i <= 1; i++ {
			for j := -3; j <= 1; j++ {
				wantNever(t, week(), k, a, in(v, i), in(w, j), walk, false)
				wantNever(t, week(), k, b, in(no, i), in(nor, j), step, true)
				for _, none := range unknown() {
					for _, known := range []api.When{v, w, no, nor} {
						wantNever(t, week(), k, b, in(known, i), in(none, j), 0, false)
						wantNever(t, week(), k, b, in(none, i), in(known, j), 0, false)
					}
					wantNever(t, week(), k, b, in(none, i), in(none, j), 0, false)
				}
			}
		}
	}
}

// TestNeverNotInGrid: what is known and may not be in the grid never holds.
func TestNeverNotInGrid(t *testing.T) {
	for _, k := range withTimes() {
		v, w, a, walk := heldBy(k)
		for _, wrong := range append(foul(v), foul(w)...) {
			for _, room := range []int{-3, -2, -1, 0, 1} {
				known := wrong.Weeks != 0
				wantNever(t, week(), k, a, in(wrong, room), in(w, 0), walk, known)
				wantNever(t, week(), k, a, in(v, 0), in(wrong, room), walk, known)
				wantNever(t, week(), k, math.MaxInt, in(wrong, room), in(wrong, -2), math.MinInt, known)
				wantNever(t, week(), k, a, in(wrong, room), spot(api.When{}), walk, false)
			}
		}
	}
}

// TestNeverRooms: each two of not known, none, a first room, others, and numbers that are no room.
func TestNeverRooms(t *testing.T) {
	for _, c := range []struct {
		i, j        int
		same, other bool
	}{
		{-2, -2, false, false}, {-2, -1, true, false}, {-2, 0, false, false}, {-2, 1, false, false},
		{-1, -1, true, false}, {-1, 0, true, false}, {-1, 1, true, false},
		{0, 0, false, true}, {0, 1, true, false}, {1, 1, false, true}, {1, 2, true, false}, {23, 23, false, true},
		{-3, -3, true, false}, {-3, -2, false, false}, {-3, -1, true, false}, {-3, 0, true, false},
		{math.MinInt, math.MinInt, true, false}, {math.MinInt, -2, false, false}, {math.MinInt, math.MaxInt, true, false},
		{math.MaxInt, math.MaxInt, false, true}, {math.MaxInt, -2, false, false}, {math.MaxInt, -1, true, false},
	} {
		for _, w := range append(unknown(), slots(0, 1), at(3, 31, 0, 10), at(1, 1, -1, 0)) {
			for _, n := range []int{0, -1, math.MinInt, math.MaxInt} {
				for _, g := range []api.Grid{week(), {}, {Weeks: 21}} {
					wantNever(t, g, api.SameRoom, n, in(w, c.i), in(slots(0, 1), c.j), n, c.same)
					wantNever(t, g, api.SameRoom, n, in(slots(0, 1), c.j), in(w, c.i), n, c.same)
					wantNever(t, g, api.OtherRoom, n, in(w, c.i), in(slots(0, 1), c.j), n, c.other)
					wantNever(t, g, api.OtherRoom, n, in(slots(0, 1), c.j), in(w, c.i), n, c.other)
				}
			}
		}
	}
}

// TestNeverFolk: where a room is not known, no walk counts.
func TestNeverFolk(t *testing.T) {
	walks := append(wild(), span(-2, 12)...)
	for _, c := range []struct {
		v, w api.When
		free int // the slots between them; -1: they share a moment
	}{
		{slots(0, 2), slots(2, 2), 0}, {slots(0, 2), slots(3, 2), 1}, {slots(5, 2), slots(0, 2), 3}, {slots(0, 1), slots(9, 1), 8},
		{slots(0, 2), slots(1, 2), -1}, {slots(3, 3), slots(3, 3), -1}, {at(3, 31, 0, 10), at(2, 16, 9, 1), -1},
		{at(1, 1, 0, 2), at(2, 1, 0, 2), math.MaxInt}, {at(1, 1, 0, 2), at(1, 2, 0, 2), math.MaxInt},
	} {
		for _, i := range []int{-3, -2, -1, 0, 1, math.MinInt, math.MaxInt} {
			for _, j := range []int{-3, -2, -1, 0, 1, math.MinInt, math.MaxInt} {
				for _, walk := range walks {
					never := c.free == -1 || walk > c.free && i != -2 && j != -2
					wantNever(t, week(), api.Folk, 0, in(c.v, i), in(c.w, j), walk, never)
					wantNever(t, week(), api.Folk, walk, in(c.w, j), in(c.v, i), walk, never)
				}
			}
		}
	}
}

// P15.4: Name, Kind

// named are all kinds that have names, with these.
func named() map[api.RuleKind]string {
	return map[api.RuleKind]string{
		1: "samestart", 2: "sametime", 3: "othertime", 4: "samedays", 5: "otherdays", 6: "sameweeks", 7: "otherweeks",
		8: "meet", 9: "apart", 10: "sameroom", 11: "otherroom", 12: "before", 13: "within", 14: "folk",
		21: "mostdays", 22: "mostload", 23: "mostbreaks", 24: "mostblock",
	}
}

func isName(s string) bool {
	for _, name := range named() {
		if name == s {
			return true
		}
	}
	return false
}

func TestName(t *testing.T) {
	for k, name := range named() {
		wantName(t, k, name)
	}
	for _, high := range []int{0, 1 << 8, 1 << 16, 1 << 32, -1 << 8, -1 << 16, -1 << 32, math.MinInt} {
		for n := -300; n <= 300; n++ {
			k := api.RuleKind(high + n)
			wantName(t, k, named()[k])
		}
	}
	for _, n := range wild() {
		wantName(t, api.RuleKind(n), "")
	}
	for _, k := range []api.RuleKind{0, 15, 16, 17, 18, 19, 20, 25, 26, -1, -24} {
		wantName(t, k, "")
	}
}

func TestKind(t *testing.T) {
	for k, name := range named() {
		wantKind(t, name, k, true)
	}
	for _, s := range []string{"", " ", "\x00", "samestar", "amestart", "same", "other", "most", "same start", "SameStart", "MEET", "Meet", "folks", "olk", "fol", "meett", "rule", "mostday", "mostweeks", "mostrooms", "beforee"} {
		wantKind(t, s, 0, false)
	}
	for n := -30; n <= 30; n++ {
		wantKind(t, strconv.Itoa(n), 0, false)
	}
}

// near are texts that differ from s by little.
func near(s string) []string {
	out := []string{
		strings.ToUpper(s), strings.ToTitle(s), strings.ToUpper(s[:1]) + s[1:], s + s, s + " " + s, s + "\n", "\n" + s, s + "\x00", "\x00" + s,
		strings.Repeat(s, 1000), s + strings.Repeat(" ", 256), strings.ReplaceAll(s, "s", "\u017f"), strings.ReplaceAll(s, "e", "\u00e9"),
	}
	for i := range len(s) + 1 {
		out = append(out, s[:i], s[i:])
		for b := range 256 {
			out = append(out, s[:i]+string([]byte{byte(b)})+s[i:])
		}
	}
	for i := range len(s) {
		out = append(out, s[:i]+s[i+1:])
		for b := range 256 {
			out = append(out, s[:i]+string([]byte{byte(b)})+s[i+1:])
		}
	}
	return out
}

func TestKindNear(t *testing.T) {
	for k, name := range named() {
		for _, s := range near(name) {
			if s == name {
				wantKind(t, s, k, true)
			} else if !isName(s) {
				wantKind(t, s, 0, false)
			}
		}
		for _, other := range named() {
			wantKind(t, name+other, 0, false)
		}
	}
}

// TestKindShort: all texts of at most three bytes of the names' letters.
func TestKindShort(t *testing.T) {
	texts := []string{""}
	for range 3 {
		longer := []string{}
		for _, s := range texts {
			for _, letter := range "abcdefhiklmnoprstuwyA 01-" {
				longer = append(longer, s+string(letter))
			}
		}
		for _, s := range longer {
			wantKind(t, s, 0, false)
		}
		texts = longer
	}
}

func TestNamesComeBack(t *testing.T) {
	met := map[string]bool{}
	for n := -300; n <= 300; n++ {
		k := api.RuleKind(n)
		name := pair.Name(k)
		if name == "" {
			continue
		}
		if met[name] {
			t.Errorf("%q is the name of two kinds", name)
		}
		met[name] = true
		wantKind(t, name, k, true)
	}
	if len(met) != 18 {
		t.Errorf("there are %d names", len(met))
	}
	for _, name := range named() {
		if k, _ := pair.Kind(name); pair.Name(k) != name {
			t.Errorf("%q comes back as %q", name, pair.Name(k))
		}
	}
	for k := range named() {
		if got := pair.Known(k); got != (k < 20) {
			t.Errorf("Known(%d) = %v", k, got)
		}
	}
}

// P15.5, and all of P15.2 and P15.3 against the chapter's words once more

// tinyTimes are all times of a grid, one that is not known, and some that may not be in it.
func tinyTimes(g api.Grid) []api.When {
	return append(whens(g), api.When{}, at(0, 1, 0, 1), at(1<<g.Weeks, 1, 0, 1), at(1, 1<<g.Days, 0, 1), at(1, 0, 0, 1), slots(g.Slots-1, 2), slots(-1, 1), slots(0, 0))
}

// eachTwo are all two of the times of tiny and of mid.
func eachTwo(look func(g api.Grid, v, w api.When)) {
	for _, g := range []api.Grid{tiny(), mid()} {
		times := tinyTimes(g)
		for _, v := range times {
			for _, w := range times {
				look(g, v, w)
			}
		}
	}
}

// numbers are those a, or walks, that matter to a kind.
func numbers(g api.Grid, k api.RuleKind) []int {
	if k == api.Within || k == api.Folk {
		return span(-1, g.Slots+1)
	}
	return []int{0}
}

func TestEachTwoTimes(t *testing.T) {
	eachTwo(func(g api.Grid, v, w api.When) {
		for _, k := range timesAlone() {
			for _, a := range numbers(g, k) {
				wantThat(t, g, k, a, spot(v), spot(w), 0)
			}
		}
		for _, walk := range numbers(g, api.Folk) {
			for _, rooms := range [][2]int{{-2, -2}, {-2, 0}, {1, -2}, {-1, 0}, {0, 0}} {
				wantThat(t, g, api.Folk, 0, in(v, rooms[0]), in(w, rooms[1]), walk)
			}
		}
	})
}

func TestEachTwoRooms(t *testing.T) {
	rooms := append(wild(), span(-5, 26)...)
	for _, i := range rooms {
		for _, j := range rooms {
			for _, k := range roomsAlone() {
				for _, w := range []api.When{{}, slots(0, 1), slots(-1, 0)} {
					wantThat(t, tiny(), k, 0, in(w, i), in(slots(0, 1), j), 0)
				}
			}
		}
	}
}

// TestKnownAll: where all is known, and the times may be in the grid, Never is so just if Holds is not.
func TestKnownAll(t *testing.T) {
	for _, g := range []api.Grid{tiny(), mid()} {
		for _, v := range whens(g) {
			for _, w := range whens(g) {
				for _, k := range kindsOfPairs() {
					for _, rooms := range [][2]int{{-1, -1}, {-1, 0}, {0, 0}, {0, 1}} {
						for _, n := range numbers(g, k) {
							x, y := in(v, rooms[0]), in(w, rooms[1])
							wantNever(t, g, k, n, x, y, n, !pair.Holds(g, k, n, x, y, n))
						}
					}
				}
			}
		}
	}
}

// more are the spots that may come of x when more of it becomes known.
func more(g api.Grid, x api.Spot) []api.Spot {
	times, rooms := []api.When{x.When}, []int{x.Room}
	if x.When.Weeks == 0 {
		times = append(times, slots(0, 1), slots(1, 1), at(1, 1, 0, g.Slots), at(1<<g.Weeks-1, 1<<g.Days-1, g.Slots-1, 1), at(1<<g.Weeks, 1, 0, 1))
	}
	if x.Room == -2 {
		rooms = append(rooms, -1, 0, 1)
	}
	var out []api.Spot
	for _, w := range times {
		for _, room := range rooms {
			out = append(out, in(w, room))
		}
	}
	return out
}

// TestNeverStays: what it tells of some is told, too, when a time or a room becomes known, and with it the walk, which is not known ahead of the rooms.
func TestNeverStays(t *testing.T) {
	some := []api.When{{}, slots(0, 1), slots(1, 2), slots(2, 1), at(3, 3, 0, 3), at(2, 2, 1, 1), at(2, 3, 2, 1), slots(-1, 2)}
	var spots []api.Spot
	for _, w := range some {
		for room := -2; room <= 1; room++ {
			spots = append(spots, in(w, room))
		}
	}
	for _, x := range spots {
		for _, y := range spots {
			for _, k := range kindsOfPairs() {
				if !pair.Never(tiny(), k, 2, x, y, 0) {
					continue
				}
				for _, u := range more(tiny(), x) {
					for _, v := range more(tiny(), y) {
						for walk := 0; walk <= 3; walk++ {
							wantNever(t, tiny(), k, 2, u, v, walk, true)
						}
						wantHolds(t, tiny(), k, 2, u, v, 0, false)
					}
				}
			}
		}
	}
}

// TestNotNeverMay: of what is not known yet Never tells so only where nothing that becomes known could make it hold.
func TestNotNeverMay(t *testing.T) {
	for _, k := range withTimes() {
		for _, w := range whens(tiny()) {
			wantNever(t, tiny(), k, 3, spot(w), spot(api.When{}), 0, false)
			wantNever(t, tiny(), k, 3, spot(api.When{}), spot(w), 0, false)
		}
	}
	for _, room := range []int{0, 1, 23} {
		wantNever(t, tiny(), api.SameRoom, 0, inRoom(-2), inRoom(room), 0, false)
		wantHolds(t, tiny(), api.SameRoom, 0, inRoom(room), inRoom(room), 0, true)
		wantNever(t, tiny(), api.OtherRoom, 0, inRoom(-2), inRoom(room), 0, false)
		wantHolds(t, tiny(), api.OtherRoom, 0, inRoom(-1), inRoom(room), 0, true)
	}
}

// TestTurned: each kind but Before tells of y and x what it tells of x and y.
func TestTurned(t *testing.T) {
	look := func(g api.Grid, k api.RuleKind, n int, x, y api.Spot) {
		wantHolds(t, g, k, n, y, x, n, pair.Holds(g, k, n, x, y, n))
		wantNever(t, g, k, n, y, x, n, pair.Never(g, k, n, x, y, n))
	}
	for _, k := range kindsOfPairs() {
		if !pair.Turns(k) {
			continue
		}
		eachTwo(func(g api.Grid, v, w api.When) {
			for _, rooms := range [][2]int{{-2, -1}, {-2, 0}, {-1, 0}, {0, 1}, {0, 0}} {
				for _, n := range []int{0, 2, 3} {
					look(g, k, n, in(v, rooms[0]), in(w, rooms[1]))
				}
			}
		})
	}
}

// TestBeforeDoesNotTurn: of two it holds one way round at most, and of some it does.
func TestBeforeDoesNotTurn(t *testing.T) {
	turned := 0
	for _, v := range whens(tiny()) {
		for _, w := range whens(tiny()) {
			there, back := pair.Holds(tiny(), api.Before, 0, spot(v), spot(w), 0), pair.Holds(tiny(), api.Before, 0, spot(w), spot(v), 0)
			if there && back {
				t.Errorf("%v and %v are before each other", v, w)
			}
			if there != back {
				turned++
			}
		}
	}
	if turned == 0 {
		t.Error("no time is before another one")
	}
}

// chance are spots by chance: most of them in the grid, some not known, some of wild numbers.
func chance(r *rand.Rand, g api.Grid) api.Spot {
	start := r.Intn(g.Slots)
	w := at(uint32(1+r.Intn(1<<g.Weeks-1)), uint8(1+r.Intn(1<<g.Days-1)), start, 1+r.Intn(g.Slots-start))
	if r.Intn(2) == 0 {
		w.Weeks, w.Days = 1<<r.Intn(g.Weeks), 1<<r.Intn(g.Days)
	}
	switch r.Intn(24) {
	case 0:
		w.Weeks = 0
	case 1:
		w.Weeks = r.Uint32()
	case 2:
		w.Days = uint8(r.Intn(256))
	case 3:
		w.Start = wild()[r.Intn(len(wild()))]
	case 4:
		w.Len = wild()[r.Intn(len(wild()))]
	case 5:
		w.Start, w.Len = r.Intn(200)-50, r.Intn(200)-50
	}
	rooms := append(wild(), -2, -2, -2, -1, -1, -1, 0, 0, 0, 0, 0, 1, 1, 1, 1, 1, 2, 3)
	return in(w, rooms[r.Intn(len(rooms))])
}

func anyNumber(r *rand.Rand, g api.Grid) int {
	if r.Intn(5) == 0 {
		return wild()[r.Intn(len(wild()))]
	}
	return r.Intn(g.Slots+4) - 2
}

func TestByChance(t *testing.T) {
	r := rand.New(rand.NewSource(15))
	for range 40000 {
		g := api.Grid{Weeks: 1 + r.Intn(3), Days: 1 + r.Intn(4), Slots: 1 + r.Intn(8)}
		x, y := chance(r, g), chance(r, g)
		a, walk := anyNumber(r, g), anyNumber(r, g)
		if r.Intn(50) == 0 {
			g = wrongGrids()[r.Intn(len(wrongGrids()))]
		}
		wantThat(t, g, api.RuleKind(r.Intn(17)-1), a, x, y, walk)
	}
}

func TestByChanceWide(t *testing.T) {
	r := rand.New(rand.NewSource(16))
	for range 600 {
		g := api.Grid{Weeks: 1 + r.Intn(20), Days: 1 + r.Intn(7), Slots: 1 + r.Intn(96)}
		x, y := chance(r, g), chance(r, g)
		for _, k := range kindsOfPairs() {
			wantThat(t, g, k, anyNumber(r, g), x, y, anyNumber(r, g))
		}
	}
}

// TestBesides: a kind looks at nothing that it does not ask for: at no number but Within, at no walk but Folk, at rooms or at times alone.
func TestBesides(t *testing.T) {
	r := rand.New(rand.NewSource(17))
	for range 4000 {
		x, y := chance(r, week()), chance(r, week())
		a, walk := anyNumber(r, week()), anyNumber(r, week())
		u, v := chance(r, week()), chance(r, week())
		b, step := anyNumber(r, week()), anyNumber(r, week())
		for _, k := range kindsOfPairs() {
			times, rooms := pair.Needs(k)
			one, other, c, way := x, y, b, step
			if k == api.Within {
				c = a
			}
			if k == api.Folk {
				way = walk
			}
			if !times {
				one.When, other.When = u.When, v.When
			}
			if !rooms {
				one.Room, other.Room = u.Room, v.Room
			}
			wantHolds(t, week(), k, c, one, other, way, pair.Holds(week(), k, a, x, y, walk))
			wantNever(t, week(), k, c, one, other, way, pair.Never(week(), k, a, x, y, walk))
		}
	}
}

// R1: nothing panics, and all ends

func TestWildAll(t *testing.T) {
	kinds := append(kindsOfPairs(), noPairs()...)
	for _, k := range kinds {
		for _, n := range wild() {
			for _, m := range ends() {
				x, y := in(api.When{Weeks: math.MaxUint32, Days: 255, Start: n, Len: m}, m), in(api.When{Weeks: 1, Days: 1, Start: m, Len: n}, n)
				g := api.Grid{Weeks: n, Days: m, Slots: n}
				wantThat(t, g, k, n, x, y, m)
				wantThat(t, week(), k, m, x, y, n)
				wantThat(t, week(), k, m, in(slots(0, 2), n), in(slots(5, 2), m), n)
			}
		}
		wantThat(t, api.Grid{}, k, 0, api.Spot{}, api.Spot{}, 0)
	}
}

// R6: the same calls answer the same, whatever was called ahead

func TestAgain(t *testing.T) {
	look := func() []bool {
		var out []bool
		eachTwo(func(g api.Grid, v, w api.When) {
			for _, k := range kindsOfPairs() {
				out = append(out, pair.Holds(g, k, 2, in(v, 0), in(w, 0), 1), pair.Never(g, k, 2, in(v, -2), in(w, 0), 1))
			}
		})
		for n := -5; n <= 30; n++ {
			k, ok := pair.Kind(pair.Name(api.RuleKind(n)))
			times, rooms := pair.Needs(api.RuleKind(n))
			out = append(out, pair.Known(api.RuleKind(n)), pair.Turns(api.RuleKind(n)), times, rooms, ok, int(k) == n)
		}
		return out
	}
	if !slices.Equal(look(), look()) {
		t.Error("what was answered once is answered otherwise")
	}
}
