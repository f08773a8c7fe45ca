package room_test

import (
	"math"
	"math/rand"
	"slices"
	"strings"
	"testing"

	"horarium/api"
	"horarium/room"
)

const (
	allWeeks = math.MaxUint32
	allDays  = math.MaxUint8
	allGear  = math.MaxUint16
)

// wild are numbers that neither a grid, a time, seats nor a walk may have, over the int's whole range; those among them that are about 2^32 look well if they are cut short.
func wild() []int {
	return []int{math.MinInt, math.MinInt + 1, math.MinInt + 96, math.MinInt32, -1 << 32, -1<<32 + 1, -10000, -97, -96, -2, -1, 10001, 1 << 16, math.MaxInt32, 1 << 32, 1<<32 + 1, 1<<62 + 1, math.MaxInt - 96, math.MaxInt - 1, math.MaxInt}
}

func grid(weeks, days, slots int) api.Grid {
	return api.Grid{Weeks: weeks, Days: days, Slots: slots}
}

func at(weeks uint32, days uint8, start, length int) api.When {
	return api.When{Weeks: weeks, Days: days, Start: start, Len: length}
}

// shutAt is a room that may be, wherever its Shut may.
func shutAt(shut ...api.When) api.Room {
	return api.Room{Name: "r", Seats: 30, Gear: 5, Shut: shut}
}

// several are n times, no two the same, each of which may be in the widest grid.
func several(n int) []api.When {
	var out []api.When
	for i := range n {
		out = append(out, at(1<<(i%20), 1<<(i%7), i%96, 1))
	}
	return out
}

// roomy are the same times, with room to spare behind their end, in which others stand.
func roomy(l []api.When) []api.When {
	return slices.Concat(l, several(5))[:len(l)]
}

// whole is all that stands in a row, its spare room too.
func whole(l []api.When) []api.When {
	return slices.Clone(l[:cap(l)])
}

func widest() api.Grid { return grid(20, 7, 96) }

// grids are some that may be, the least and the greatest ones among them.
func grids() []api.Grid {
	return []api.Grid{grid(1, 1, 1), grid(1, 1, 2), grid(1, 2, 1), grid(2, 1, 1), grid(2, 2, 4), grid(3, 5, 10), grid(4, 6, 7), grid(20, 1, 1), grid(1, 7, 1), grid(1, 1, 96), grid(19, 6, 95), widest()}
}

// wrongGrids are some that may not be, by one number alone or by several.
func wrongGrids() []api.Grid {
	out := []api.Grid{{}, grid(21, 7, 96), grid(20, 8, 96), grid(20, 7, 97), grid(21, 8, 97), grid(0, 1, 1), grid(1, 0, 1), grid(1, 1, 0), grid(7, 20, 96), grid(96, 7, 20)}
	for _, n := range wild() {
		out = append(out, grid(n, 7, 96), grid(20, n, 96), grid(20, 7, n), grid(n, n, n))
	}
	return out
}

// times are all Whens that may be in g.
func times(g api.Grid) []api.When {
	out := []api.When{}
	for weeks := uint32(1); weeks < 1<<g.Weeks; weeks++ {
		for days := 1; days < 1<<g.Days; days++ {
			for start := range g.Slots {
				for length := 1; start+length <= g.Slots; length++ {
					out = append(out, at(weeks, uint8(days), start, length))
				}
			}
		}
	}
	return out
}

// beside are times that may not be in g, each by little alone, or by numbers that are wild.
func beside(g api.Grid) []api.When {
	out := []api.When{
		{}, at(0, 1, 0, 1), at(1, 0, 0, 1), at(1, 1, 0, 0), at(1, 1, -1, 1), at(1, 1, -1, 2), at(1, 1, 1, -1),
		at(1<<g.Weeks, 1, 0, 1), at(1<<g.Weeks|1, 1, 0, 1), at(1<<31, 1, 0, 1), at(allWeeks, 1, 0, 1),
		at(1, 1<<g.Days, 0, 1), at(1, 1<<g.Days|1, 0, 1), at(1, 1<<7, 0, 1), at(1, allDays, 0, 1),
		at(1, 1, 0, g.Slots+1), at(1, 1, 1, g.Slots), at(1, 1, g.Slots, 1), at(1, 1, g.Slots-1, 2), at(1, 1, g.Slots+1, -1),
		at(1, 1, math.MaxInt, math.MinInt), at(1, 1, math.MaxInt, 1), at(1, 1, math.MaxInt, math.MaxInt),
	}
	for _, n := range wild() {
		out = append(out, at(1, 1, n, 1), at(1, 1, 0, n))
	}
	return out
}

// mixed are times of all kinds: tame and not, in few grids, in many, in none.
func mixed() []api.When {
	out := []api.When{
		at(1, 1, 0, 1), at(1, 1, 1, 1), at(1, 1, 0, 2), at(1, 1, 1, 2), at(3, 3, 0, 2), at(2, 1, 0, 2), at(1, 2, 0, 2), at(6, 6, 3, 4), at(1, 1, 2, 90),
		at(1<<19, 1<<6, 95, 1), at(1<<20-1, 127, 0, 96), at(1<<20, 1, 0, 1), at(1<<31, 1<<7, 0, 96), at(allWeeks, allDays, 96, 96), at(allWeeks, allDays, 96, 1), at(allWeeks, allDays, 95, 2), at(allWeeks, allDays, 0, 96),
		at(allWeeks, 0, 0, 96), at(0, allDays, 0, 96), at(allWeeks, allDays, 97, 1), at(allWeeks, allDays, 0, 97), at(allWeeks, allDays, 0, 0), at(allWeeks, allDays, 0, -1), at(allWeeks, allDays, -1, 2),
	}
	return slices.Concat(out, beside(widest()))
}

// someTime is one that may be in g, by chance.
func someTime(chance *rand.Rand, g api.Grid) api.When {
	length := 1 + chance.Intn(g.Slots)
	return api.When{
		Weeks: 1 + uint32(chance.Intn(1<<g.Weeks-1)),
		Days:  uint8(1 + chance.Intn(1<<g.Days-1)),
		Start: chance.Intn(g.Slots - length + 1),
		Len:   length,
	}
}

// someRoom is one that may be in g, by chance.
func someRoom(chance *rand.Rand, g api.Grid) api.Room {
	r := api.Room{Name: strings.Repeat("n", 1+chance.Intn(24)), Seats: chance.Intn(10001), Gear: uint16(chance.Intn(1 << 16))}
	for range chance.Intn(17) {
		r.Shut = append(r.Shut, someTime(chance, g))
	}
	return r
}

// rooms are some, that may be in a grid or in none.
func rooms() []api.Room {
	return []api.Room{
		{}, {Name: "r"}, {Seats: 3}, {Gear: 9}, {Shut: several(1)}, shutAt(), shutAt(several(1)...), shutAt(several(2)...), shutAt(several(15)...), shutAt(several(16)...), shutAt(several(17)...), shutAt(several(300)...), shutAt(mixed()...), shutAt(mixed()[:9]...),
		{Name: strings.Repeat("\xff", 25), Seats: math.MinInt, Gear: allGear, Shut: []api.When{{}, {}, {}}},
		{Name: strings.Repeat("n", 1<<16), Seats: math.MaxInt, Shut: []api.When{at(allWeeks, allDays, math.MinInt, math.MaxInt)}},
		{Name: "\x00\n ", Seats: 10000, Gear: 1 << 15, Shut: []api.When{at(1, 1, 0, 1), at(1, 1, 0, 1), at(1, 1, 0, 1)}},
	}
}

// The chapter's words once more, by means of their own

func isGrid(g api.Grid) bool {
	return g.Weeks > 0 && g.Weeks < 21 && g.Days > 0 && g.Days < 8 && g.Slots > 0 && g.Slots < 97
}

// isTame tells whether w is one of those that are tame, which are gone through.
func isTame(w api.When) bool {
	for start := range 97 {
		for length := 1; length <= 96; length++ {
			if w.Start == start && w.Len == length {
				return true
			}
		}
	}
	return false
}

// has tells whether a moment is one of w's, which is tame.
func has(w api.When, week, day, slot int) bool {
	return w.Weeks&(1<<week) != 0 && w.Days&(1<<day) != 0 && slot >= w.Start && slot < w.Start+w.Len
}

// isTime tells whether w may be in g: it has moments, and all of them are of the grid.
func isTime(g api.Grid, w api.When) bool {
	return isGrid(g) && isTame(w) && w.Weeks != 0 && w.Days != 0 && w.Weeks < 1<<g.Weeks && int(w.Days) < 1<<g.Days && w.Start+w.Len <= g.Slots
}

func isRoom(g api.Grid, r api.Room) bool {
	for _, w := range r.Shut {
		if !isTime(g, w) {
			return false
		}
	}
	return isGrid(g) && r.Name != "" && len(r.Name) < 25 && r.Seats > -1 && r.Seats < 10001 && len(r.Shut) < 17
}

// share tells whether two times have a week, a day and a slot that are both's.
func share(a, b api.When) bool {
	if !isTame(a) || !isTame(b) || a.Weeks&b.Weeks == 0 || a.Days&b.Days == 0 {
		return false
	}
	for slot := range 192 {
		if slot >= a.Start && slot < a.Start+a.Len && slot >= b.Start && slot < b.Start+b.Len {
			return true
		}
	}
	return false
}

func isShut(r api.Room, w api.When) bool {
	for _, shut := range r.Shut {
		if share(w, shut) {
			return true
		}
	}
	return false
}

// open are the moments of g, one by one, at which r, that may be in it, is not shut.
func open(g api.Grid, r api.Room) []int {
	var out []int
	m := 0
	for week := range g.Weeks {
		for day := range g.Days {
			for slot := range g.Slots {
				if !slices.ContainsFunc(r.Shut, func(w api.When) bool { return has(w, week, day, slot) }) {
					out = append(out, m)
				}
				m++
			}
		}
	}
	return out
}

// isWalk tells whether walk may be those between n rooms: no number is a wrong one.
func isWalk(n int, walk [][]int) bool {
	if n < 0 || n > 24 || len(walk) != n {
		return false
	}
	for _, row := range walk {
		if len(row) != n {
			return false
		}
	}
	wrong := 0
	for a := range n {
		wrong += walk[a][a] * walk[a][a]
		for b := range a {
			if walk[a][b] != walk[b][a] || walk[a][b] < 0 || walk[a][b] > 96 {
				wrong++
			}
		}
	}
	return wrong == 0
}

// sameRoom is not by the rows' own sameness: a nil row and an empty one are the same.
func sameRoom(a, b api.Room) bool {
	if len(a.Shut) != len(b.Shut) {
		return false
	}
	for i := range a.Shut {
		if a.Shut[i] != b.Shut[i] {
			return false
		}
	}
	return a.Name == b.Name && a.Seats == b.Seats && a.Gear == b.Gear
}

func wantName(t *testing.T, s string, want bool) {
	t.Helper()
	if got := room.Name(s); got != want {
		t.Errorf("Name(%q), of %d bytes, = %v", s[:min(len(s), 30)], len(s), got)
	}
}

func wantRight(t *testing.T, g api.Grid, r api.Room, want bool) {
	t.Helper()
	if got := room.Right(g, r); got != want {
		t.Errorf("Right(%v, %v) = %v", g, r, got)
	}
}

func wantRightWalk(t *testing.T, n int, walk [][]int, want bool) {
	t.Helper()
	if got := room.RightWalk(n, walk); got != want {
		t.Errorf("RightWalk(%d, %v) = %v", n, walk, got)
	}
}

func wantWalk(t *testing.T, walk [][]int, a, b int, want int) {
	t.Helper()
	if got := room.Walk(walk, a, b); got != want {
		t.Errorf("Walk(%v, %d, %d) = %d, want %d", walk, a, b, got, want)
	}
}

func wantShut(t *testing.T, r api.Room, w api.When, want bool) {
	t.Helper()
	if got := room.Shut(r, w); got != want {
		t.Errorf("Shut(%v, %v) = %v", r, w, got)
	}
}

func wantFits(t *testing.T, r api.Room, seats int, gear uint16, want bool) {
	t.Helper()
	if got := room.Fits(r, seats, gear); got != want {
		t.Errorf("Fits(%v, %d, %b) = %v", r, seats, gear, got)
	}
}

func wantOpen(t *testing.T, g api.Grid, r api.Room, want []int) {
	t.Helper()
	if got := room.Open(g, r); !slices.Equal(got, want) {
		t.Errorf("Open(%v, %v) = %d (%d numbers), want %d (%d numbers)", g, r, got[:min(len(got), 9)], len(got), want[:min(len(want), 9)], len(want))
	}
}

func wantClose(t *testing.T, r api.Room, w api.When, want api.Room, err api.Errno) {
	t.Helper()
	if got, no := room.Close(r, w); !sameRoom(got, want) || no != err {
		t.Errorf("Close(%v, %v) = %v, %d, want %v, %d", r, w, got, no, want, err)
	}
}

func wantReopen(t *testing.T, r api.Room, w api.When, want api.Room, err api.Errno) {
	t.Helper()
	if got, no := room.Reopen(r, w); !sameRoom(got, want) || no != err {
		t.Errorf("Reopen(%v, %v) = %v, %d, want %v, %d", r, w, got, no, want, err)
	}
}

// wantSame: both ways round.
func wantSame(t *testing.T, a, b api.Room, want bool) {
	t.Helper()
	if room.Same(a, b) != want || room.Same(b, a) != want {
		t.Errorf("Same of %v and %v is %v, and the other way round %v", a, b, room.Same(a, b), room.Same(b, a))
	}
}

// The chapter's example

func TestExample(t *testing.T) {
	walk := [][]int{{0, 3}, {3, 0}}
	wantWalk(t, walk, 0, 1, 3)
	wantWalk(t, walk, 0, 2, 0)
	wantRightWalk(t, 2, walk, true)
}

// P11.1: Name

// TestNameOfAnyBytes: bytes are counted, whatever they are; neither letters nor runes.
func TestNameOfAnyBytes(t *testing.T) {
	for c := range 256 {
		for n := range 60 {
			wantName(t, strings.Repeat(string([]byte{byte(c)}), n), n >= 1 && n <= 24)
		}
	}
}

func TestNameOfRunes(t *testing.T) {
	for _, letter := range []string{"\u00e9", "\u20ac", "\U0001f600", "\xe2\x82", "a\u0301"} {
		for n := range 30 {
			wantName(t, strings.Repeat(letter, n), n >= 1 && n*len(letter) <= 24)
		}
	}
}

func TestLongNames(t *testing.T) {
	for _, n := range []int{256, 257, 280, 1 << 16, 1<<16 + 24, 1 << 20} {
		wantName(t, strings.Repeat("a", n), false)
	}
}

// P11.1: Right

func TestRightName(t *testing.T) {
	for _, g := range grids() {
		for n := range 60 {
			for _, letter := range []string{"a", " ", "\x00", "\xff"} {
				r := shutAt(at(1, 1, 0, 1))
				r.Name = strings.Repeat(letter, n)
				wantRight(t, g, r, n >= 1 && n <= 24)
			}
		}
	}
}

func TestRightSeats(t *testing.T) {
	for _, g := range grids() {
		for _, seats := range []int{0, 1, 2, 30, 9999, 10000} {
			wantRight(t, g, api.Room{Name: "r", Seats: seats}, true)
		}
		for _, seats := range wild() {
			wantRight(t, g, api.Room{Name: "r", Seats: seats}, false)
		}
	}
	rights := 0
	for seats := -20000; seats <= 30000; seats++ {
		if room.Right(widest(), api.Room{Name: "r", Seats: seats}) {
			rights++
		}
	}
	if rights != 10001 {
		t.Errorf("a room may have %d numbers of seats, want 10001", rights)
	}
}

// TestRightGear: any gear may be.
func TestRightGear(t *testing.T) {
	for gear := range 1 << 16 {
		if !room.Right(grid(1, 1, 1), api.Room{Name: "r", Gear: uint16(gear)}) {
			t.Fatalf("a room with the gear %b may not be", gear)
		}
	}
}

func TestRightShut(t *testing.T) {
	for n := range 40 {
		wantRight(t, widest(), shutAt(several(n)...), n <= 16)
		wantRight(t, widest(), shutAt(make([]api.When, n)...), n == 0)
		wantRight(t, grid(1, 1, 1), shutAt(slices.Repeat([]api.When{at(1, 1, 0, 1)}, n)...), n <= 16)
	}
	for _, g := range grids() {
		wantRight(t, g, api.Room{Name: "r", Shut: nil}, true)
		wantRight(t, g, api.Room{Name: "r", Shut: []api.When{}}, true)
	}
}

// TestRightByOneShut: one alone, wherever it stands, may not be in the grid.
func TestRightByOneShut(t *testing.T) {
	for _, g := range grids() {
		for _, w := range beside(g) {
			for _, n := range []int{1, 2, 3, 16} {
				for i := range n {
					r := shutAt(slices.Repeat([]api.When{at(1, 1, 0, 1)}, n)...)
					wantRight(t, g, r, true)
					r.Shut[i] = w
					wantRight(t, g, r, false)
				}
			}
		}
	}
}

// TestRightByEachTime: of small grids all times that may be, and those beside them.
func TestRightByEachTime(t *testing.T) {
	for _, g := range []api.Grid{grid(1, 1, 1), grid(2, 2, 3), grid(3, 1, 2), grid(1, 3, 2)} {
		for weeks := range uint32(1 << (g.Weeks + 2)) {
			for days := range 1 << (g.Days + 2) {
				for start := -2; start <= g.Slots+2; start++ {
					for length := -2; length <= g.Slots+2; length++ {
						r := shutAt(at(weeks, uint8(days), start, length))
						wantRight(t, g, r, isRoom(g, r))
					}
				}
			}
		}
	}
}

func TestRightInOtherGrids(t *testing.T) {
	chance := rand.New(rand.NewSource(1))
	for _, g := range grids() {
		for range 20 {
			r := someRoom(chance, g)
			wantRight(t, g, r, true)
			for _, other := range slices.Concat(grids(), wrongGrids()) {
				wantRight(t, other, r, isRoom(other, r))
			}
		}
	}
}

func TestRightInWrongGrids(t *testing.T) {
	for _, g := range wrongGrids() {
		for _, r := range slices.Concat(rooms(), []api.Room{shutAt(), shutAt(at(1, 1, 0, 1))}) {
			wantRight(t, g, r, false)
		}
	}
}

func TestRightOfAll(t *testing.T) {
	for _, r := range rooms() {
		for _, g := range grids() {
			wantRight(t, g, r, isRoom(g, r))
		}
	}
}

// P11.1: RightWalk

// level are walks between n rooms, each of which is as long.
func level(n, slots int) [][]int {
	walk := [][]int{}
	for a := range n {
		row := slices.Repeat([]int{slots}, n)
		row[a] = 0
		walk = append(walk, row)
	}
	return walk
}

// someWalk are walks between n rooms, by chance.
func someWalk(chance *rand.Rand, n int) [][]int {
	walk := level(n, 0)
	for a := range n {
		for b := range a {
			walk[a][b] = chance.Intn(97)
			walk[b][a] = walk[a][b]
		}
	}
	return walk
}

func cloneWalk(walk [][]int) [][]int {
	out := [][]int{}
	for _, row := range walk {
		out = append(out, slices.Clone(row))
	}
	return out
}

func TestRightWalk(t *testing.T) {
	chance := rand.New(rand.NewSource(2))
	for n := range 25 {
		for _, slots := range []int{0, 1, 2, 48, 95, 96} {
			wantRightWalk(t, n, level(n, slots), true)
		}
		for range 20 {
			wantRightWalk(t, n, someWalk(chance, n), true)
		}
	}
}

// TestRightWalkBetweenNone: of no rooms there are no rows, nil or not.
func TestRightWalkBetweenNone(t *testing.T) {
	wantRightWalk(t, 0, nil, true)
	wantRightWalk(t, 0, [][]int{}, true)
	wantRightWalk(t, 0, [][]int{nil}, false)
	wantRightWalk(t, 0, [][]int{{}}, false)
	wantRightWalk(t, 0, [][]int{{0}}, false)
	for n := 1; n <= 26; n++ {
		wantRightWalk(t, n, nil, false)
		wantRightWalk(t, n, [][]int{}, false)
		wantRightWalk(t, n, make([][]int, n), false)
	}
}

// TestRightWalkOfOtherNumbers: the walks themselves may be, but between so many rooms none may, or others.
func TestRightWalkOfOtherNumbers(t *testing.T) {
	for n := 25; n <= 40; n++ {
		wantRightWalk(t, n, level(n, 3), false)
	}
	for size := range 27 {
		walk := level(size, 3)
		for _, n := range slices.Concat(wild(), []int{24, 25, 26, 97, size - 1, size + 1, -size, size + 1<<32, size - 1<<32, size + math.MinInt}) {
			wantRightWalk(t, n, walk, n == size && size <= 24)
		}
	}
}

func TestRightWalkOfOtherRows(t *testing.T) {
	for n := 1; n <= 24; n++ {
		walk := level(n, 3)
		wantRightWalk(t, n, walk[:n-1], false)
		wantRightWalk(t, n, append(cloneWalk(walk), make([]int, n)), false)
		wantRightWalk(t, n, append(cloneWalk(walk), nil), false)
		for a := range n {
			for _, row := range [][]int{nil, {}, walk[a][:n-1], append(slices.Clone(walk[a]), 0), append(slices.Clone(walk[a]), 3), walk[a][:n/2]} {
				other := cloneWalk(walk)
				other[a] = row
				wantRightWalk(t, n, other, false)
			}
		}
		longer := cloneWalk(walk)
		for a := range longer {
			longer[a] = append(longer[a], 3)
		}
		wantRightWalk(t, n, longer, false)
	}
}

// TestRightWalkOfWrongNumbers: wherever they stand, and although they are the same both ways.
func TestRightWalkOfWrongNumbers(t *testing.T) {
	for _, n := range []int{1, 2, 3, 7, 24} {
		for a := range n {
			for b := range a {
				for _, slots := range []int{0, 96} {
					walk := level(n, 5)
					walk[a][b], walk[b][a] = slots, slots
					wantRightWalk(t, n, walk, true)
				}
				for _, slots := range append(wild(), 97, 98, 256, 1<<32+5) {
					walk := level(n, 5)
					walk[a][b], walk[b][a] = slots, slots
					wantRightWalk(t, n, walk, false)
				}
			}
		}
	}
}

// TestRightWalkToItself: none but 0.
func TestRightWalkToItself(t *testing.T) {
	for n := 1; n <= 24; n++ {
		for a := range n {
			for _, slots := range append(wild(), 1, 2, 5, 96, 97) {
				walk := level(n, 5)
				walk[a][a] = slots
				wantRightWalk(t, n, walk, false)
			}
		}
	}
}

// TestRightWalkBothWays: there it is not as long as back, between two rooms alone.
func TestRightWalkBothWays(t *testing.T) {
	for n := 2; n <= 24; n++ {
		for a := range n {
			for b := range n {
				for _, slots := range []int{0, 4, 6, 96, -5, -1, 97, 5 + 1<<32, math.MinInt, math.MaxInt} {
					walk := level(n, 5)
					if a != b {
						walk[a][b] = slots
						wantRightWalk(t, n, walk, false)
					}
				}
			}
		}
	}
}

// each goes over all rows of n of the numbers.
func each(n int, numbers []int, yield func([]int)) {
	row := make([]int, n)
	var put func(int)
	put = func(at int) {
		if at == n {
			yield(row)
			return
		}
		for _, number := range numbers {
			row[at] = number
			put(at + 1)
		}
	}
	put(0)
}

func TestEachSmallWalk(t *testing.T) {
	each(4, []int{-1, 0, 1, 2, 95, 96, 97}, func(l []int) {
		walk := [][]int{l[:2:2], l[2:4:4]}
		wantRightWalk(t, 2, walk, isWalk(2, walk))
	})
	each(9, []int{0, 1, 96}, func(l []int) {
		walk := [][]int{l[:3:3], l[3:6:6], l[6:9:9]}
		wantRightWalk(t, 3, walk, isWalk(3, walk))
	})
}

// TestEachShapeOfWalk: rows of each length, all of whose numbers are 0.
func TestEachShapeOfWalk(t *testing.T) {
	for rows := range 5 {
		each(rows, []int{0, 1, 2, 3, 4}, func(lengths []int) {
			walk := [][]int{}
			for _, n := range lengths {
				walk = append(walk, make([]int, n))
			}
			for n := -1; n <= 5; n++ {
				wantRightWalk(t, n, walk, isWalk(n, walk))
			}
		})
	}
}

// P11.1: Walk

func walks() [][][]int {
	return [][][]int{
		nil, {}, {nil}, {{}}, {{7}}, {{0, 3}, {3, 0}},
		{{1, 2, 3}, {}, nil, {4}, {5, 6, 7, 8, 9}, {10, 11}},
		{{}, {1, 2}, {3}},
		{{math.MinInt, math.MaxInt}, {-1, 97}, {1 << 32, -1 << 32}},
		level(24, 96), level(30, 97),
	}
}

func TestWalk(t *testing.T) {
	for _, walk := range walks() {
		there := map[[2]int]int{}
		for a, row := range walk {
			for b, slots := range row {
				there[[2]int{a, b}] = slots
			}
		}
		for a := -3; a <= 35; a++ {
			for b := -3; b <= 35; b++ {
				wantWalk(t, walk, a, b, there[[2]int{a, b}])
			}
		}
	}
}

func TestWalkOfWildPlaces(t *testing.T) {
	for _, walk := range walks() {
		for _, n := range append(wild(), 97, 256) {
			for _, m := range append(wild(), 0, 1, 2, 23, 24) {
				wantWalk(t, walk, n, m, 0)
				wantWalk(t, walk, m, n, 0)
			}
		}
	}
}

// TestWalkThereAndBack: which of the two is the row.
func TestWalkThereAndBack(t *testing.T) {
	walk := [][]int{{1, 2, 3}, {4, 5}}
	wantWalk(t, walk, 0, 1, 2)
	wantWalk(t, walk, 1, 0, 4)
	wantWalk(t, walk, 0, 2, 3)
	wantWalk(t, walk, 2, 0, 0)
	wantWalk(t, walk, 1, 2, 0)
	wantWalk(t, walk, 1, 1, 5)
}

// P11.1: Same

func TestSame(t *testing.T) {
	list := rooms()
	for i, a := range list {
		for j, b := range list {
			wantSame(t, a, b, i == j)
		}
		copied := a
		copied.Name, copied.Shut = strings.Clone(a.Name), roomy(a.Shut)
		wantSame(t, a, copied, true)
	}
}

// TestSameByOneAlone: in all else they are the same.
func TestSameByOneAlone(t *testing.T) {
	for _, a := range rooms() {
		for _, change := range []func(*api.Room){
			func(r *api.Room) { r.Name += "x" },
			func(r *api.Room) { r.Name += "\x00" },
			func(r *api.Room) { r.Seats++ },
			func(r *api.Room) { r.Seats += 1 << 32 },
			func(r *api.Room) { r.Gear ^= 1 },
			func(r *api.Room) { r.Gear ^= 1 << 15 },
			func(r *api.Room) { r.Shut = append(slices.Clone(r.Shut), api.When{}) },
			func(r *api.Room) { r.Shut = append(slices.Clone(r.Shut), at(1, 1, 0, 1)) },
			func(r *api.Room) { r.Shut = append([]api.When{at(9, 9, 9, 9)}, r.Shut...) },
		} {
			b := a
			change(&b)
			wantSame(t, a, b, false)
		}
	}
	small, great := shutAt(), shutAt()
	small.Name, great.Name = "r", "R"
	wantSame(t, small, great, false)
}

func TestSameByOneShut(t *testing.T) {
	for _, n := range []int{1, 2, 3, 16, 17, 100} {
		a := shutAt(several(n)...)
		for i := range n {
			for _, change := range []func(*api.When){
				func(w *api.When) { w.Weeks ^= 1 << 31 },
				func(w *api.When) { w.Days ^= 1 << 7 },
				func(w *api.When) { w.Start++ },
				func(w *api.When) { w.Start += 1 << 32 },
				func(w *api.When) { w.Len++ },
				func(w *api.When) { w.Len -= 1 << 32 },
			} {
				b := shutAt(several(n)...)
				wantSame(t, a, b, true)
				change(&b.Shut[i])
				wantSame(t, a, b, false)
			}
		}
		wantSame(t, a, shutAt(a.Shut[:n-1]...), false)
		wantSame(t, a, shutAt(a.Shut[1:]...), false)
	}
}

// TestSameByOrder: the same times, but in another order; or as often, but not the same ones.
func TestSameByOrder(t *testing.T) {
	a, b, c := at(1, 1, 0, 1), at(1, 1, 1, 1), at(2, 1, 0, 1)
	wantSame(t, shutAt(a, b), shutAt(b, a), false)
	wantSame(t, shutAt(a, b, c), shutAt(b, c, a), false)
	wantSame(t, shutAt(a, a, b), shutAt(a, b, b), false)
	wantSame(t, shutAt(a, a), shutAt(a), false)
	wantSame(t, shutAt(a, b, c), shutAt(a, b, c), true)
	// They are at the same moments, but not the same times.
	wantSame(t, shutAt(at(1, 1, 0, 2)), shutAt(at(1, 1, 0, 1), at(1, 1, 1, 1)), false)
	wantSame(t, shutAt(at(0, 1, 0, 1)), shutAt(at(1, 0, 0, 1)), false)
	wantSame(t, shutAt(at(0, 1, 0, 1)), shutAt(), false)
}

func TestSameOfNilAndEmpty(t *testing.T) {
	none, empty := api.Room{Name: "r"}, api.Room{Name: "r", Shut: []api.When{}}
	spare := api.Room{Name: "r", Shut: roomy(nil)}
	wantSame(t, none, empty, true)
	wantSame(t, none, spare, true)
	wantSame(t, empty, spare, true)
	wantSame(t, api.Room{}, api.Room{}, true)
}

// P11.2: Shut

// TestShutByEach: of times of all kinds each two, whether the room may be or not.
func TestShutByEach(t *testing.T) {
	list := mixed()
	for _, a := range list {
		for _, w := range list {
			want := share(a, w)
			wantShut(t, shutAt(a), w, want)
			wantShut(t, api.Room{Name: strings.Repeat("n", 25), Seats: -1, Shut: []api.When{a}}, w, want)
		}
	}
}

// TestShutByOneOfSeveral: wherever it stands.
func TestShutByOneOfSeveral(t *testing.T) {
	w := at(4, 4, 50, 3)
	for _, n := range []int{1, 2, 3, 16, 17, 300} {
		for i := range n {
			r := shutAt(slices.Repeat([]api.When{at(4, 4, 0, 50)}, n)...)
			wantShut(t, r, w, false)
			r.Shut[i] = at(7, 7, 52, 9)
			wantShut(t, r, w, true)
			r.Shut[i] = at(7, 7, 53, 9)
			wantShut(t, r, w, false)
		}
	}
}

// TestShutByNoneAlone: each shares the week, the day or the slots with w, but none shares all of them.
func TestShutByNoneAlone(t *testing.T) {
	r := shutAt(at(1, 2, 4, 2), at(2, 1, 4, 2), at(1, 1, 0, 4), at(1, 1, 6, 90))
	wantShut(t, r, at(1, 1, 4, 2), false)
	wantShut(t, r, at(1, 1, 3, 2), true)
	wantShut(t, r, at(1, 1, 4, 3), true)
	wantShut(t, r, at(3, 1, 4, 2), true)
	wantShut(t, r, at(1, 3, 4, 2), true)
}

func TestNeverShut(t *testing.T) {
	for _, w := range mixed() {
		wantShut(t, shutAt(), w, false)
		wantShut(t, api.Room{}, w, false)
		wantShut(t, shutAt([]api.When{}...), w, false)
	}
}

func TestShutOfAll(t *testing.T) {
	for _, r := range rooms() {
		for _, w := range mixed() {
			wantShut(t, r, w, isShut(r, w))
		}
	}
}

func TestShutOfSome(t *testing.T) {
	chance := rand.New(rand.NewSource(3))
	for _, g := range grids() {
		for range 200 {
			r, w := someRoom(chance, g), someTime(chance, g)
			wantShut(t, r, w, isShut(r, w))
		}
	}
}

// P11.2: Fits

func TestFitsSeats(t *testing.T) {
	numbers := []int{math.MinInt, math.MinInt + 1, -1 << 32, math.MinInt32, -2, -1, 0, 1, 2, 29, 30, 31, 9999, 10000, 10001, math.MaxInt32, 1 << 32, 1<<32 + 1, math.MaxInt - 1, math.MaxInt}
	for i, has := range numbers {
		for j, seats := range numbers {
			wantFits(t, api.Room{Name: "r", Seats: has}, seats, 0, i >= j)
			wantFits(t, api.Room{Seats: has, Gear: allGear}, seats, allGear, i >= j)
			wantFits(t, api.Room{Seats: has, Gear: 1}, seats, 2, false)
		}
	}
}

func TestFitsGear(t *testing.T) {
	for has := range 1 << 5 {
		for gear := range 1 << 5 {
			missing := false
			for bit := range 5 {
				missing = missing || gear>>bit%2 == 1 && has>>bit%2 == 0
			}
			for _, r := range []api.Room{{Name: "r", Seats: 30, Gear: uint16(has)}, {Seats: 30, Gear: uint16(has), Shut: make([]api.When, 17)}} {
				wantFits(t, r, 30, uint16(gear), !missing)
				wantFits(t, r, -1, uint16(gear), !missing)
				wantFits(t, r, 31, uint16(gear), false)
			}
		}
	}
}

// TestFitsEachBit: with one bit missing alone, and one more than asked for.
func TestFitsEachBit(t *testing.T) {
	for bit := range 16 {
		one := uint16(1) << bit
		wantFits(t, api.Room{Gear: allGear &^ one}, 0, allGear, false)
		wantFits(t, api.Room{Gear: allGear &^ one}, 0, one, false)
		wantFits(t, api.Room{Gear: allGear &^ one}, 0, allGear&^one, true)
		wantFits(t, api.Room{Gear: allGear}, 0, one, true)
		wantFits(t, api.Room{Gear: one}, 0, one, true)
		wantFits(t, api.Room{Gear: one}, 0, allGear, false)
		wantFits(t, api.Room{Gear: one}, 0, 0, true)
		wantFits(t, api.Room{}, 0, one, false)
	}
	wantFits(t, api.Room{}, 0, 0, true)
	wantFits(t, api.Room{Gear: allGear}, 0, allGear, true)
}

// P11.2: Open

func TestKnownOpen(t *testing.T) {
	g := grid(2, 2, 3)
	wantOpen(t, g, shutAt(), []int{0, 1, 2, 3, 4, 5, 6, 7, 8, 9, 10, 11})
	wantOpen(t, g, shutAt(at(1, 1, 0, 1)), []int{1, 2, 3, 4, 5, 6, 7, 8, 9, 10, 11})
	wantOpen(t, g, shutAt(at(3, 2, 1, 2)), []int{0, 1, 2, 3, 6, 7, 8, 9})
	wantOpen(t, g, shutAt(at(2, 3, 0, 3)), []int{0, 1, 2, 3, 4, 5})
	wantOpen(t, g, shutAt(at(2, 2, 2, 1)), []int{0, 1, 2, 3, 4, 5, 6, 7, 8, 9, 10})
	wantOpen(t, g, shutAt(at(3, 3, 0, 3)), nil)
	wantOpen(t, g, shutAt(at(3, 3, 0, 2), at(1, 3, 1, 2)), []int{8, 11})
	wantOpen(t, g, shutAt(at(3, 3, 0, 1), at(3, 3, 2, 1), at(3, 3, 1, 1)), nil)
	wantOpen(t, g, shutAt(at(3, 3, 0, 2), at(3, 3, 0, 2)), []int{2, 5, 8, 11})
	wantOpen(t, grid(1, 1, 1), shutAt(), []int{0})
	wantOpen(t, grid(1, 1, 1), shutAt(at(1, 1, 0, 1)), nil)
}

func TestOpen(t *testing.T) {
	chance := rand.New(rand.NewSource(4))
	for _, g := range grids() {
		always := at(1<<g.Weeks-1, 1<<g.Days-1, 0, g.Slots)
		list := []api.Room{shutAt(), shutAt([]api.When{}...), shutAt(always), shutAt(at(1, 1, 0, 1), always), shutAt(slices.Repeat([]api.When{at(1, 1, 0, 1)}, 16)...), {Name: strings.Repeat("\x00", 24), Seats: 10000, Gear: allGear}}
		for range 20 {
			list = append(list, someRoom(chance, g))
		}
		for _, r := range list {
			wantOpen(t, g, r, open(g, r))
		}
	}
}

// TestOpenOfEach: of small grids each time alone, and each two of them, those that overlap too.
func TestOpenOfEach(t *testing.T) {
	for _, g := range []api.Grid{grid(1, 1, 1), grid(2, 2, 3), grid(1, 1, 6), grid(3, 1, 2), grid(1, 3, 2)} {
		list := times(g)
		for _, a := range list {
			wantOpen(t, g, shutAt(a), open(g, shutAt(a)))
			for _, b := range list {
				wantOpen(t, g, shutAt(a, b), open(g, shutAt(a, b)))
			}
		}
	}
}

// TestOpenIsNotShut: of each moment of a grid the one or the other.
func TestOpenIsNotShut(t *testing.T) {
	chance := rand.New(rand.NewSource(5))
	for _, g := range []api.Grid{grid(2, 2, 4), grid(3, 5, 10), grid(20, 7, 1)} {
		for range 20 {
			r := someRoom(chance, g)
			told := room.Open(g, r)
			if !slices.IsSorted(told) || len(slices.Compact(slices.Clone(told))) != len(told) {
				t.Errorf("%d do not rise", told)
			}
			m := 0
			for week := range g.Weeks {
				for day := range g.Days {
					for slot := range g.Slots {
						wantShut(t, r, at(1<<week, 1<<day, slot, 1), !slices.Contains(told, m))
						m++
					}
				}
			}
		}
	}
}

func TestOpenOfNoRoom(t *testing.T) {
	for _, g := range grids() {
		for _, w := range beside(g) {
			wantOpen(t, g, shutAt(w), nil)
			wantOpen(t, g, shutAt(at(1, 1, 0, 1), w), nil)
			wantOpen(t, g, shutAt(w, at(1, 1, 0, 1)), nil)
		}
		wantOpen(t, g, api.Room{}, nil)
		wantOpen(t, g, api.Room{Name: strings.Repeat("n", 25)}, nil)
		wantOpen(t, g, api.Room{Name: "r", Seats: -1}, nil)
		wantOpen(t, g, api.Room{Name: "r", Seats: 10001}, nil)
		wantOpen(t, g, shutAt(slices.Repeat([]api.When{at(1, 1, 0, 1)}, 17)...), nil)
	}
	for _, g := range wrongGrids() {
		for _, r := range rooms() {
			wantOpen(t, g, r, nil)
		}
	}
}

func TestOpenOfAll(t *testing.T) {
	for _, r := range rooms() {
		for _, g := range grids() {
			if isRoom(g, r) {
				wantOpen(t, g, r, open(g, r))
			} else {
				wantOpen(t, g, r, nil)
			}
		}
	}
}

// P11.3: Close

// closed is r with w behind its Shut, laid by hand.
func closed(r api.Room, w api.When) api.Room {
	shut := make([]api.When, len(r.Shut)+1)
	for i := range r.Shut {
		shut[i] = r.Shut[i]
	}
	shut[len(r.Shut)] = w
	return api.Room{Name: r.Name, Seats: r.Seats, Gear: r.Gear, Shut: shut}
}

// TestClose: whether the room, or the time, may be or not.
func TestClose(t *testing.T) {
	for _, r := range rooms() {
		for _, w := range slices.Concat(mixed(), r.Shut) {
			if len(r.Shut) >= 16 {
				wantClose(t, r, w, api.Room{}, api.ErrFull)
			} else {
				wantClose(t, r, w, closed(r, w), api.OK)
			}
		}
	}
}

func TestCloseUntilItIsFull(t *testing.T) {
	r := api.Room{Name: "r", Seats: 12, Gear: 3}
	for i, w := range several(16) {
		next, err := room.Close(r, w)
		if err != api.OK || !sameRoom(next, api.Room{Name: "r", Seats: 12, Gear: 3, Shut: several(i + 1)}) {
			t.Fatalf("Close(%v, %v) = %v, %d", r, w, next, err)
		}
		r = next
	}
	for n := range 30 {
		full := shutAt(several(16 + n)...)
		wantClose(t, full, at(1, 1, 0, 1), api.Room{}, api.ErrFull)
		wantClose(t, full, full.Shut[0], api.Room{}, api.ErrFull)
	}
	wantClose(t, r, at(1, 1, 0, 1), api.Room{}, api.ErrFull)
}

// TestCloseWhereItIsShut: w is there already, and stands behind all the same.
func TestCloseWhereItIsShut(t *testing.T) {
	a, b := at(1, 1, 0, 1), at(1, 1, 1, 1)
	wantClose(t, shutAt(a, b), a, shutAt(a, b, a), api.OK)
	wantClose(t, shutAt(a), a, shutAt(a, a), api.OK)
	wantClose(t, shutAt(), api.When{}, shutAt(api.When{}), api.OK)
}

// P11.3: Reopen

// reopened is r without the one of its Shut that stands there, laid by hand.
func reopened(r api.Room, place int) api.Room {
	var shut []api.When
	for i, w := range r.Shut {
		if i != place {
			shut = append(shut, w)
		}
	}
	return api.Room{Name: r.Name, Seats: r.Seats, Gear: r.Gear, Shut: shut}
}

// TestReopen: whether the room, or the time, may be or not.
func TestReopen(t *testing.T) {
	for _, r := range rooms() {
		first := map[api.When]int{}
		for i := len(r.Shut) - 1; i >= 0; i-- {
			first[r.Shut[i]] = i
		}
		for _, w := range slices.Concat(mixed(), r.Shut) {
			if i, ok := first[w]; ok {
				wantReopen(t, r, w, reopened(r, i), api.OK)
			} else {
				wantReopen(t, r, w, api.Room{}, api.ErrNone)
			}
		}
	}
}

func TestReopenOfOne(t *testing.T) {
	a, b, c, none := at(1, 1, 0, 1), at(1, 1, 1, 1), at(2, 1, 0, 1), at(2, 1, 1, 1)
	wantReopen(t, shutAt(a), a, shutAt(), api.OK)
	wantReopen(t, shutAt(a, b, c), a, shutAt(b, c), api.OK)
	wantReopen(t, shutAt(a, b, c), b, shutAt(a, c), api.OK)
	wantReopen(t, shutAt(a, b, c), c, shutAt(a, b), api.OK)
	wantReopen(t, shutAt(a, b, c), none, api.Room{}, api.ErrNone)
	wantReopen(t, shutAt(), none, api.Room{}, api.ErrNone)
	wantReopen(t, shutAt([]api.When{}...), none, api.Room{}, api.ErrNone)
	wantReopen(t, api.Room{}, api.When{}, api.Room{}, api.ErrNone)
}

// TestReopenOfTwo: of one that is there twice the first goes, and the other stays.
func TestReopenOfTwo(t *testing.T) {
	a, b, c := at(1, 1, 0, 1), at(1, 1, 1, 1), at(2, 1, 0, 1)
	wantReopen(t, shutAt(a, b, a, c), a, shutAt(b, a, c), api.OK)
	wantReopen(t, shutAt(b, a, c, a), a, shutAt(b, c, a), api.OK)
	wantReopen(t, shutAt(a, a, b), a, shutAt(a, b), api.OK)
	wantReopen(t, shutAt(b, a, a), a, shutAt(b, a), api.OK)
	wantReopen(t, shutAt(a, a, a), a, shutAt(a, a), api.OK)
}

// TestReopenOfLikeOnes: they meet, or cover one another, but none is that time.
func TestReopenOfLikeOnes(t *testing.T) {
	r := shutAt(at(3, 3, 4, 4))
	for _, w := range []api.When{at(1, 3, 4, 4), at(3, 1, 4, 4), at(3, 3, 4, 3), at(3, 3, 5, 3), at(3, 3, 3, 4), at(7, 3, 4, 4), at(3, 7, 4, 4), at(3, 3, 4+1<<32, 4), at(3, 3, 4, 4+1<<32), at(3, 3, 3, 6), {}} {
		wantReopen(t, r, w, api.Room{}, api.ErrNone)
		wantReopen(t, shutAt(w), r.Shut[0], api.Room{}, api.ErrNone)
		wantReopen(t, shutAt(w, r.Shut[0]), r.Shut[0], shutAt(w), api.OK)
	}
}

func TestReopenUntilNoneIsLeft(t *testing.T) {
	for _, n := range []int{1, 2, 16, 17, 300} {
		r := shutAt(several(n)...)
		for i := range n {
			next, err := room.Reopen(r, r.Shut[0])
			if err != api.OK || !sameRoom(next, shutAt(several(n)[i+1:]...)) {
				t.Fatalf("Reopen(%v, %v) = %v, %d", r, r.Shut[0], next, err)
			}
			r = next
		}
		wantReopen(t, r, several(1)[0], api.Room{}, api.ErrNone)
	}
}

// TestZeroRoomWithAnError: not one field is that of the room.
func TestZeroRoomWithAnError(t *testing.T) {
	full := api.Room{Name: "r", Seats: 3, Gear: 3, Shut: several(16)}
	if got, err := room.Close(full, at(9, 9, 9, 9)); err != api.ErrFull || got.Name != "" || got.Seats != 0 || got.Gear != 0 || len(got.Shut) != 0 {
		t.Errorf("Close of a full room is %v, %d", got, err)
	}
	if got, err := room.Reopen(full, at(9, 9, 9, 9)); err != api.ErrNone || got.Name != "" || got.Seats != 0 || got.Gear != 0 || len(got.Shut) != 0 {
		t.Errorf("Reopen at no time is %v, %d", got, err)
	}
}

// P11.4: what follows

// wantBack: Reopen of Close is r, if w is none of its Shut; else the first w is gone, and one stands behind.
func wantBack(t *testing.T, r api.Room, w api.When) {
	t.Helper()
	shut, err := room.Close(r, w)
	if err != api.OK {
		t.Fatalf("Close(%v, %v) is refused: %d", r, w, err)
	}
	want := r
	if i := slices.Index(r.Shut, w); i >= 0 {
		want = reopened(shut, i)
	}
	wantReopen(t, shut, w, want, api.OK)
}

func TestReopenOfClose(t *testing.T) {
	for _, r := range rooms() {
		for _, w := range slices.Concat(mixed(), r.Shut) {
			if len(r.Shut) < 16 {
				wantBack(t, r, w)
			}
		}
	}
	chance := rand.New(rand.NewSource(6))
	for _, g := range grids() {
		for range 100 {
			r := someRoom(chance, g)
			r.Shut = r.Shut[:min(len(r.Shut), 15)]
			wantBack(t, r, someTime(chance, g))
		}
	}
}

// R4, R6: what is handed in stays, what is handed out is new, and the same again

// shared are all rows that a call could share with its room: with spare room, and without.
func shared() [][]api.When {
	var out [][]api.When
	for _, n := range []int{0, 1, 2, 3, 14, 15, 16, 17} {
		out = append(out, several(n), slices.Clip(several(n)), roomy(several(n)))
	}
	return out
}

func TestRoomsAreNotChanged(t *testing.T) {
	g := widest()
	for _, shut := range shared() {
		r := shutAt(shut...)
		was, all := r, whole(shut)
		for _, w := range slices.Concat(several(17), []api.When{{}, at(1, 1, 0, 1)}) {
			room.Right(g, r)
			room.Shut(r, w)
			room.Fits(r, 3, 3)
			room.Open(g, r)
			room.Close(r, w)
			room.Reopen(r, w)
			room.Same(r, was)
			if !sameRoom(r, was) || !slices.Equal(whole(shut), all) {
				t.Fatalf("with %v the room is another one: %v, %v", w, r, whole(shut))
			}
		}
	}
}

// TestRoomsAreNotShared: whoever changes an answer changes neither the room that was handed in nor another answer; nor the other way round.
func TestRoomsAreNotShared(t *testing.T) {
	for _, shut := range shared() {
		r, all := shutAt(shut...), whole(shut)
		for _, w := range several(17) {
			for _, call := range []func(api.Room, api.When) (api.Room, api.Errno){room.Close, room.Reopen} {
				one, _ := call(r, w)
				two, _ := call(r, w)
				want := whole(two.Shut)
				clear(one.Shut[:cap(one.Shut)])
				if !slices.Equal(whole(shut), all) || !slices.Equal(whole(two.Shut), want) {
					t.Fatalf("with %v: a room is changed with another one", w)
				}
				clear(shut[:cap(shut)])
				if !slices.Equal(whole(two.Shut), want) {
					t.Fatalf("with %v: the answer is changed with the room", w)
				}
				copy(shut[:cap(shut)], all)
			}
		}
	}
}

func TestOpenIsNew(t *testing.T) {
	g := grid(3, 5, 10)
	r := shutAt(at(7, 31, 2, 5))
	want := open(g, r)
	one, two := room.Open(g, r), room.Open(g, r)
	clear(one[:cap(one)])
	if !slices.Equal(two, want) {
		t.Error("the row is another one, when the one ahead is changed")
	}
	wantOpen(t, g, r, want)
}

// wholeWalk is all that stands in walks, the spare room of each row too.
func wholeWalk(walk [][]int) [][]int {
	out := [][]int{}
	for _, row := range walk[:cap(walk)] {
		out = append(out, slices.Clone(row[:cap(row)]))
	}
	return out
}

func TestWalksAreNotChanged(t *testing.T) {
	chance := rand.New(rand.NewSource(7))
	spare := [][]int{{0, 3, 9, 9}, {3, 0, 9, 9}, {9}}
	list := append(walks(), someWalk(chance, 24), [][]int{spare[0][:2], spare[1][:2], spare[2]}[:2])
	for _, walk := range list {
		was := wholeWalk(walk)
		for a := -1; a <= len(walk); a++ {
			room.RightWalk(len(walk)+a, walk)
			room.Walk(walk, a, 0)
			room.Walk(walk, a, len(walk))
		}
		if !slices.EqualFunc(wholeWalk(walk), was, slices.Equal) {
			t.Errorf("%v is changed to %v", was, wholeWalk(walk))
		}
	}
}

// TestAgain: what was asked ahead changes no answer.
func TestAgain(t *testing.T) {
	g := grid(2, 2, 4)
	for range 3 {
		wantName(t, "r", true)
		wantRight(t, g, shutAt(at(1, 1, 0, 1)), true)
		wantRight(t, g, shutAt(at(4, 1, 0, 1)), false)
		wantRightWalk(t, 2, level(2, 3), true)
		wantRightWalk(t, 2, level(2, 97), false)
		wantWalk(t, level(2, 3), 1, 0, 3)
		wantShut(t, shutAt(at(1, 1, 0, 1)), at(1, 1, 0, 2), true)
		wantFits(t, shutAt(), 30, 5, true)
		wantOpen(t, g, shutAt(at(3, 3, 1, 3)), []int{0, 4, 8, 12})
		wantOpen(t, g, api.Room{}, nil)
		wantClose(t, shutAt(), at(1, 1, 0, 1), shutAt(at(1, 1, 0, 1)), api.OK)
		wantClose(t, shutAt(several(16)...), at(1, 1, 0, 1), api.Room{}, api.ErrFull)
		wantReopen(t, shutAt(several(2)...), several(1)[0], shutAt(several(2)[1]), api.OK)
		wantReopen(t, shutAt(), at(1, 1, 0, 1), api.Room{}, api.ErrNone)
		wantSame(t, shutAt(), shutAt(), true)
	}
}
