package class_test

import (
	"math"
	"math/big"
	"math/rand"
	"slices"
	"strings"
	"testing"

	"horarium/api"
	"horarium/class"
)

const (
	allWeeks = math.MaxUint32
	allDays  = math.MaxUint8
	allGear  = math.MaxUint16
)

// wild are numbers that a class may have nowhere, over the int's whole range (but -1, which an Over may be); those among them that are about 2^32 look well if they are cut short.
func wild() []int {
	return []int{math.MinInt, math.MinInt + 1, math.MinInt + 96, math.MinInt32, -1 << 32, -1<<32 + 1, -10000, -1000, -97, -2, -1, 10001, 1 << 16, math.MaxInt32, 1 << 32, 1<<32 + 1, 1<<62 + 1, math.MaxInt - 96, math.MaxInt - 1, math.MaxInt}
}

func grid(weeks, days, slots int) api.Grid {
	return api.Grid{Weeks: weeks, Days: days, Slots: slots}
}

func at(weeks uint32, days uint8, start, length int) api.When {
	return api.When{Weeks: weeks, Days: days, Start: start, Len: length}
}

// on is a time of the first day of the first week.
func on(start, length int) api.When { return at(1, 1, start, length) }

func widest() api.Grid { return grid(20, 7, 96) }

// grids are some that may be, the least and the greatest ones among them.
func grids() []api.Grid {
	return []api.Grid{grid(1, 1, 1), grid(1, 1, 2), grid(1, 2, 1), grid(2, 1, 1), grid(2, 2, 4), grid(3, 5, 10), grid(4, 6, 7), grid(20, 1, 1), grid(1, 7, 1), grid(1, 1, 96), grid(19, 6, 95), widest()}
}

// wrongGrids are some that may not be, by one number alone or by several.
func wrongGrids() []api.Grid {
	out := []api.Grid{{}, grid(21, 7, 96), grid(20, 8, 96), grid(20, 7, 97), grid(21, 8, 97), grid(0, 1, 1), grid(1, 0, 1), grid(1, 1, 0), grid(7, 20, 96), grid(96, 7, 20)}
	for _, n := range wild() {
		out = append(out, grid(n, 7, 96), grid(20, n, 96), grid(20, 7, n), grid(n, n, n))
	}
	return out
}

// beside are times that may not be in g, each by little alone, or by numbers that are wild.
func beside(g api.Grid) []api.When {
	out := []api.When{
		{}, at(0, 1, 0, 1), at(1, 0, 0, 1), on(0, 0), on(-1, 1), on(-1, 2), on(1, -1),
		at(1<<g.Weeks, 1, 0, 1), at(1<<g.Weeks|1, 1, 0, 1), at(1<<31, 1, 0, 1), at(allWeeks, 1, 0, 1),
		at(1, 1<<g.Days, 0, 1), at(1, 1<<g.Days|1, 0, 1), at(1, 1<<7, 0, 1), at(1, allDays, 0, 1),
		on(0, g.Slots+1), on(1, g.Slots), on(g.Slots, 1), on(g.Slots-1, 2), on(g.Slots+1, -1),
		on(math.MaxInt, math.MinInt), on(math.MaxInt, 1), on(math.MaxInt, math.MaxInt),
	}
	for _, n := range wild() {
		out = append(out, on(n, 1), on(0, n))
	}
	return out
}

// whens are n times, no two the same, each of which may be in the widest grid.
func whens(n int) []api.When {
	var out []api.When
	for i := range n {
		out = append(out, at(1<<(i%20), 1<<(i%7), i%96, 1+i/6720))
	}
	return out
}

func timesOf(n int) []api.Time {
	var out []api.Time
	for i, w := range whens(n) {
		out = append(out, api.Time{When: w, Cost: (i*7 + 3) % 1001})
	}
	return out
}

func placesOf(n int) []api.Place {
	var out []api.Place
	for i := range n {
		out = append(out, api.Place{Room: (i*7 + 2) % max(n, 24), Cost: (i*11 + 4) % 1001})
	}
	return out
}

func timed(w api.When, cost int) api.Time { return api.Time{When: w, Cost: cost} }

func placed(room, cost int) api.Place { return api.Place{Room: room, Cost: cost} }

func seat(time, place int) api.Seat { return api.Seat{Time: time, Place: place} }

// upTo are the numbers below n, rising.
func upTo(n int) []int {
	var out []int
	for i := range n {
		out = append(out, i)
	}
	return out
}

// good is a class that may be in the widest grid, among 24 rooms, 24 persons and 40 classes.
func good() api.Class {
	return api.Class{Name: "c", Seats: 30, Gear: 5, Persons: []int{1, 3, 4}, Times: timesOf(3), Places: placesOf(2), Over: 7}
}

// seated is a class of so many times and places.
func seated(times, places int) api.Class {
	return api.Class{Name: "c", Times: timesOf(times), Places: placesOf(places), Over: -1}
}

// costing is a class whose times and places have these costs.
func costing(times, places []int) api.Class {
	c := seated(len(times), len(places))
	for i, cost := range times {
		c.Times[i].Cost = cost
	}
	for i, cost := range places {
		c.Places[i].Cost = cost
	}
	return c
}

// but is c in new memory, changed.
func but(c api.Class, change func(*api.Class)) api.Class {
	c.Persons, c.Times, c.Places = slices.Clone(c.Persons), slices.Clone(c.Times), slices.Clone(c.Places)
	change(&c)
	return c
}

// odd are classes that may not be, in many ways, and that are looked at as they stand all the same.
func odd() []api.Class {
	return []api.Class{
		{}, {Name: strings.Repeat("\xff", 25)}, {Persons: []int{}, Times: []api.Time{}, Places: []api.Place{}},
		seated(0, 1), seated(0, 12), seated(17, 13), seated(60, 50), seated(300, 0), seated(0, 300),
		{Name: "c", Seats: math.MinInt, Gear: allGear, Persons: []int{9, 9, -9}, Times: make([]api.Time, 3), Places: make([]api.Place, 4), Over: math.MinInt},
		{Name: "c", Times: []api.Time{timed(at(allWeeks, allDays, math.MinInt, math.MaxInt), math.MinInt), timed(api.When{}, math.MaxInt)}, Places: []api.Place{placed(-1, math.MaxInt), placed(-2, math.MinInt), placed(math.MinInt, -1), placed(math.MaxInt, 0)}},
		costing([]int{5, -3, -3}, []int{-7, 1001, -7}), costing([]int{math.MaxInt, math.MinInt}, []int{math.MinInt, math.MaxInt}), costing([]int{math.MinInt}, []int{-1}), costing([]int{math.MaxInt}, []int{1}),
	}
}

// classes are some that may be, and some that may not.
func classes() []api.Class {
	out := []api.Class{good(), seated(1, 0), seated(16, 0), seated(1, 1), seated(2, 3), seated(3, 2), seated(1, 12), seated(16, 1), seated(16, 12), costing([]int{4, 2, 2, 9}, []int{1, 0, 0}), costing([]int{0, 1000}, nil), costing([]int{1000}, []int{1000, 0})}
	return append(out, odd()...)
}

// places are numbers at and about those of a row that has so many things, and over the int's whole range.
func places(n int) []int {
	return append(wild(), -3, 0, 1, n/2, n-2, n-1, n, n+1, n+1<<32, -n, -1-n, math.MinInt+n, math.MaxInt-n)
}

// probes are Seats, of which some may be c's.
func probes(c api.Class) []api.Seat {
	var out []api.Seat
	for _, time := range places(len(c.Times)) {
		for _, place := range places(len(c.Places)) {
			out = append(out, seat(time, place))
		}
	}
	return out
}

// The chapter's words once more, by means of their own

func isGrid(g api.Grid) bool {
	return g.Weeks > 0 && g.Weeks < 21 && g.Days > 0 && g.Days < 8 && g.Slots > 0 && g.Slots < 97
}

func isTime(g api.Grid, w api.When) bool {
	if !isGrid(g) || w.Weeks == 0 || w.Days == 0 || w.Weeks >= 1<<g.Weeks || int(w.Days) >= 1<<g.Days {
		return false
	}
	return w.Start >= 0 && w.Start < g.Slots && w.Len > 0 && w.Len <= g.Slots && w.Start+w.Len <= g.Slots
}

// isIn tells whether n is from 0 below so many.
func isIn(n, below int) bool { return 0 <= n && n < below }

func isClass(g api.Grid, rooms, persons, classes int, c api.Class) bool {
	for i, p := range c.Persons {
		if !isIn(p, persons) || i > 0 && c.Persons[i-1] >= p {
			return false
		}
	}
	seen := map[api.When]bool{}
	for _, t := range c.Times {
		if !isTime(g, t.When) || seen[t.When] || !isIn(t.Cost, 1001) {
			return false
		}
		seen[t.When] = true
	}
	taken := map[int]bool{}
	for _, p := range c.Places {
		if !isIn(p.Room, rooms) || taken[p.Room] || !isIn(p.Cost, 1001) {
			return false
		}
		taken[p.Room] = true
	}
	return isGrid(g) && c.Name != "" && len(c.Name) < 25 && isIn(c.Seats, 10001) && len(c.Persons) < 5 && len(c.Times) > 0 && len(c.Times) < 17 && len(c.Places) < 13 && (c.Over == -1 && classes >= 0 || isIn(c.Over, classes))
}

// told is what the chapter says of a Seat that may be a class's.
type told struct {
	whole       bool
	spot        api.Spot
	time, place int
}

// lay are all Seats that may be c's, one by one, and what the chapter says of each.
func lay(c api.Class) map[api.Seat]told {
	out := map[api.Seat]told{}
	rooms := []api.Place{{Room: -2}}
	if len(c.Places) == 0 {
		rooms[0].Room = -1
	}
	rooms = append(rooms, c.Places...)
	for i, t := range append([]api.Time{{}}, c.Times...) {
		for j, p := range rooms {
			out[api.Seat{Time: i - 1, Place: j - 1}] = told{
				whole: i > 0 && (j > 0 || len(rooms) == 1),
				spot:  api.Spot{When: t.When, Room: p.Room},
				time:  t.Cost,
				place: p.Cost,
			}
		}
	}
	return out
}

// wholes are the whole Seats of c, in order.
func wholes(c api.Class) []api.Seat {
	var out []api.Seat
	for s, what := range lay(c) {
		if what.whole {
			out = append(out, s)
		}
	}
	slices.SortFunc(out, func(a, b api.Seat) int {
		if a.Time != b.Time {
			return a.Time - b.Time
		}
		return a.Place - b.Place
	})
	return out
}

// least is the first whole Seat of c whose costs are least, reckoned without bounds, and what they are.
func least(c api.Class) (api.Seat, *big.Int) {
	var best api.Seat
	var sum *big.Int
	seats := lay(c)
	for _, s := range wholes(c) {
		this := new(big.Int).Add(big.NewInt(int64(seats[s].time)), big.NewInt(int64(seats[s].place)))
		if sum == nil || this.Cmp(sum) < 0 {
			best, sum = s, this
		}
	}
	return best, sum
}

// sameClass is not by the rows' own sameness: a nil row and an empty one are the same.
func sameClass(a, b api.Class) bool {
	if a.Name != b.Name || a.Seats != b.Seats || a.Gear != b.Gear || a.Over != b.Over || len(a.Persons) != len(b.Persons) || len(a.Times) != len(b.Times) || len(a.Places) != len(b.Places) {
		return false
	}
	for i := range a.Persons {
		if a.Persons[i] != b.Persons[i] {
			return false
		}
	}
	for i := range a.Times {
		if a.Times[i] != b.Times[i] {
			return false
		}
	}
	for i := range a.Places {
		if a.Places[i] != b.Places[i] {
			return false
		}
	}
	return true
}

// wantRight: among as many rooms, persons and classes as there may be.
func wantRight(t *testing.T, g api.Grid, c api.Class, want bool) {
	t.Helper()
	wantAmong(t, g, 24, 24, 40, c, want)
}

func wantAmong(t *testing.T, g api.Grid, rooms, persons, classes int, c api.Class, want bool) {
	t.Helper()
	if got := class.Right(g, rooms, persons, classes, c); got != want {
		t.Errorf("Right(%v, %d, %d, %d, %v) = %v", g, rooms, persons, classes, c, got)
	}
}

// wantTold: all that is told of a Seat is what is laid of it; nothing, of one that is not.
func wantTold(t *testing.T, c api.Class, s api.Seat, seats map[api.Seat]told) {
	t.Helper()
	want, ok := seats[s]
	if got := class.Seat(c, s); got != ok {
		t.Errorf("of %v: Seat(%v) = %v", c, s, got)
	}
	if got := class.Whole(c, s); got != want.whole {
		t.Errorf("of %v: Whole(%v) = %v", c, s, got)
	}
	if got, may := class.Spot(c, s); got != want.spot || may != ok {
		t.Errorf("of %v: Spot(%v) = %v, %v, want %v, %v", c, s, got, may, want.spot, ok)
	}
	if time, place := class.Cost(c, s); time != want.time || place != want.place {
		t.Errorf("of %v: Cost(%v) = %d, %d, want %d, %d", c, s, time, place, want.time, want.place)
	}
}

func wantSeats(t *testing.T, c api.Class, want []api.Seat) {
	t.Helper()
	if got := slices.Collect(class.Seats(c)); !slices.Equal(got, want) {
		t.Errorf("of %v: Seats are %v, want %v", c, got, want)
	}
	if got := class.Count(c); got != len(want) {
		t.Errorf("of %v: Count = %d, want %d", c, got, len(want))
	}
}

func wantCheapest(t *testing.T, c api.Class, want api.Seat, sum int) {
	t.Helper()
	if got, cost := class.Cheapest(c); got != want || cost != sum {
		t.Errorf("of %v: Cheapest = %v, %d, want %v, %d", c, got, cost, want, sum)
	}
}

// wantLeast: the cheapest Seat is such as it is when all are held against each other; its costs too, where an int is what they are.
func wantLeast(t *testing.T, c api.Class) {
	t.Helper()
	best, sum := least(c)
	got, cost := class.Cheapest(c)
	if sum == nil {
		sum = new(big.Int)
	}
	if got != best || sum.IsInt64() && int64(cost) != sum.Int64() {
		t.Errorf("of %v: Cheapest = %v, %d, want %v, %v", c, got, cost, best, sum)
	}
}

// wantSame: both ways round.
func wantSame(t *testing.T, a, b api.Class, want bool) {
	t.Helper()
	if class.Same(a, b) != want || class.Same(b, a) != want {
		t.Errorf("Same of %v and %v is %v, and the other way round %v", a, b, class.Same(a, b), class.Same(b, a))
	}
}

// The chapter's example

func TestExample(t *testing.T) {
	wantSeats(t, seated(2, 3), []api.Seat{seat(0, 0), seat(0, 1), seat(0, 2), seat(1, 0), seat(1, 1), seat(1, 2)})
}

// P13.1: Right

func TestRight(t *testing.T) {
	c := good()
	wantRight(t, widest(), c, true)
	wantRight(t, widest(), but(c, func(c *api.Class) { c.Persons = nil }), true)
	wantRight(t, widest(), but(c, func(c *api.Class) { c.Persons = []int{} }), true)
	wantRight(t, widest(), but(c, func(c *api.Class) { c.Places = nil }), true)
	wantRight(t, widest(), but(c, func(c *api.Class) { c.Places = []api.Place{} }), true)
	wantRight(t, widest(), but(c, func(c *api.Class) { c.Times = nil }), false)
	wantRight(t, widest(), but(c, func(c *api.Class) { c.Times = []api.Time{} }), false)
	wantRight(t, widest(), api.Class{}, false)
	wantAmong(t, grid(1, 1, 1), 0, 0, 0, api.Class{Name: "c", Times: []api.Time{{When: on(0, 1)}}, Over: -1}, true)
}

// TestRightName: bytes are counted, whatever they are; neither letters nor runes.
func TestRightName(t *testing.T) {
	named := func(s string) api.Class { return but(good(), func(c *api.Class) { c.Name = s }) }
	for b := range 256 {
		for n := range 40 {
			wantRight(t, widest(), named(strings.Repeat(string([]byte{byte(b)}), n)), n >= 1 && n <= 24)
		}
	}
	for _, letter := range []string{"\u00e9", "\u20ac", "\U0001f600", "\xe2\x82", "a\u0301"} {
		for n := range 30 {
			wantRight(t, widest(), named(strings.Repeat(letter, n)), n >= 1 && n*len(letter) <= 24)
		}
	}
	for _, n := range []int{256, 257, 280, 1 << 16, 1<<16 + 24} {
		wantRight(t, widest(), named(strings.Repeat("a", n)), false)
	}
}

func TestRightSeats(t *testing.T) {
	for n := -50; n <= 10050; n++ {
		wantRight(t, widest(), but(good(), func(c *api.Class) { c.Seats = n }), n >= 0 && n <= 10000)
	}
	for _, n := range wild() {
		wantRight(t, widest(), but(good(), func(c *api.Class) { c.Seats = n }), false)
	}
}

func TestRightGear(t *testing.T) {
	for gear := range allGear + 1 {
		wantRight(t, widest(), but(good(), func(c *api.Class) { c.Gear = uint16(gear) }), true)
	}
}

// taughtBy is a class that may be, wherever its Persons may.
func taughtBy(persons ...int) api.Class {
	return but(good(), func(c *api.Class) { c.Persons, c.Over = persons, -1 })
}

func TestRightPersons(t *testing.T) {
	for n := range 30 {
		wantRight(t, widest(), taughtBy(upTo(n)...), n <= 4)
	}
	for persons := -3; persons < 30; persons++ {
		wantAmong(t, widest(), 24, persons, 40, taughtBy(), true)
		wantAmong(t, widest(), 24, persons, 40, taughtBy(-1), false)
		for p := range 32 {
			wantAmong(t, widest(), 24, persons, 40, taughtBy(p), p < persons)
		}
	}
	wantRight(t, widest(), taughtBy(2, 1), false)
	wantRight(t, widest(), taughtBy(1, 1), false)
	wantRight(t, widest(), taughtBy(0, 1, 3, 3), false)
	wantRight(t, widest(), taughtBy(0, 1, 3, 2), false)
	wantRight(t, widest(), taughtBy(0, 2, 1, 3), false)
	wantRight(t, widest(), taughtBy(1, 0, 2, 3), false)
	wantRight(t, widest(), taughtBy(20, 21, 22, 23), true)
	wantRight(t, widest(), taughtBy(21, 22, 23, 24), false)
	wantRight(t, widest(), taughtBy(slices.Repeat([]int{0}, 1000)...), false)
}

// TestRightByEachPersons: each row of up to five of a few numbers, among each few persons.
func TestRightByEachPersons(t *testing.T) {
	rows := [][]int{nil}
	for at := 0; len(rows[at]) < 5; at++ {
		for p := -2; p <= 5; p++ {
			rows = append(rows, append(slices.Clone(rows[at]), p))
		}
	}
	for _, row := range rows {
		for persons := -1; persons <= 6; persons++ {
			if got, want := class.Right(widest(), 24, persons, 40, taughtBy(row...)), isClass(widest(), 24, persons, 40, taughtBy(row...)); got != want {
				t.Fatalf("among %d persons %d may be: %v", persons, row, got)
			}
		}
	}
}

// TestRightByOnePerson: one alone, wherever it stands, is none of the persons.
func TestRightByOnePerson(t *testing.T) {
	for n := 1; n <= 4; n++ {
		for i := range n {
			for _, p := range append(wild(), 24, 25) {
				c := taughtBy(upTo(n)...)
				wantRight(t, widest(), c, true)
				c.Persons[i] = p
				wantRight(t, widest(), c, false)
			}
		}
	}
}

// TestRightAmongWildNumbers: as many rooms, persons and classes as an int can tell, and as few.
func TestRightAmongWildNumbers(t *testing.T) {
	plain := api.Class{Name: "c", Times: timesOf(1), Over: -1}
	for _, n := range append(wild(), 0, 1, 2, 24, 40) {
		for _, number := range append(wild(), 0, 1, 2, 23, 24) {
			in := isIn(number, n)
			wantAmong(t, widest(), 24, n, 40, but(plain, func(c *api.Class) { c.Persons = []int{number} }), in)
			wantAmong(t, widest(), n, 24, 40, but(plain, func(c *api.Class) { c.Places = []api.Place{{Room: number}} }), in)
			wantAmong(t, widest(), 24, 24, n, but(plain, func(c *api.Class) { c.Over = number }), in || number == -1 && n >= 0)
		}
		wantAmong(t, widest(), 24, n, 40, plain, true)
		wantAmong(t, widest(), n, 24, 40, plain, true)
		wantAmong(t, widest(), n, n, 40, plain, true)
		wantAmong(t, widest(), 24, 24, n, plain, n >= 0)
	}
}

// TestRightAmongEach: each of the three numbers counts for its own things alone.
func TestRightAmongEach(t *testing.T) {
	for rooms := -1; rooms <= 3; rooms++ {
		for persons := -1; persons <= 3; persons++ {
			for classes := -1; classes <= 3; classes++ {
				for number := -2; number <= 3; number++ {
					for _, c := range []api.Class{
						{Name: "c", Times: timesOf(1), Persons: []int{number}, Over: -1},
						{Name: "c", Times: timesOf(1), Places: []api.Place{{Room: number}}, Over: -1},
						{Name: "c", Times: timesOf(1), Over: number},
						{Name: "c", Times: timesOf(1), Persons: []int{0, 1}, Places: []api.Place{{Room: 1}, {Room: 0}}, Over: number},
					} {
						wantAmong(t, widest(), rooms, persons, classes, c, isClass(widest(), rooms, persons, classes, c))
					}
				}
			}
		}
	}
}

// timedBy is a class that may be, wherever its Times may.
func timedBy(times ...api.Time) api.Class {
	return but(good(), func(c *api.Class) { c.Times = times })
}

func TestRightTimes(t *testing.T) {
	for n := range 60 {
		wantRight(t, widest(), timedBy(timesOf(n)...), n >= 1 && n <= 16)
	}
	wantRight(t, widest(), timedBy(timesOf(5000)...), false)
}

// TestRightByOneTime: one alone, wherever it stands, may not be in the grid.
func TestRightByOneTime(t *testing.T) {
	g := widest()
	for _, w := range beside(g) {
		for _, n := range []int{1, 2, 3, 16} {
			for i := range n {
				c := timedBy(timesOf(n)...)
				c.Times[i].When = w
				wantRight(t, g, c, false)
			}
		}
	}
	for _, g := range grids() {
		wantRight(t, g, timedBy(api.Time{When: on(0, 1)}), true)
		for _, w := range beside(g) {
			wantRight(t, g, timedBy(api.Time{When: w}), false)
			wantRight(t, g, timedBy(api.Time{When: on(0, 1)}, api.Time{When: w}), false)
			wantRight(t, g, timedBy(api.Time{When: w}, api.Time{When: on(0, 1)}), false)
		}
	}
}

// TestRightByEachTime: of small grids all times that may be, and those beside them.
func TestRightByEachTime(t *testing.T) {
	for _, g := range []api.Grid{grid(1, 1, 1), grid(2, 2, 3), grid(3, 1, 2), grid(1, 3, 2)} {
		for weeks := range uint32(1 << (g.Weeks + 2)) {
			for days := range 1 << (g.Days + 2) {
				for start := -2; start <= g.Slots+2; start++ {
					for length := -2; length <= g.Slots+2; length++ {
						w := at(weeks, uint8(days), start, length)
						wantRight(t, g, timedBy(api.Time{When: w}), isTime(g, w))
					}
				}
			}
		}
	}
}

// TestRightByTwoTimes: two are of one When, wherever they stand, whether they cost the same or not.
func TestRightByTwoTimes(t *testing.T) {
	for _, n := range []int{2, 3, 4, 16} {
		for i := range n {
			for j := range n {
				c := timedBy(timesOf(n)...)
				c.Times[j].When = c.Times[i].When
				wantRight(t, widest(), c, i == j)
				c.Times[j].Cost = c.Times[i].Cost
				wantRight(t, widest(), c, i == j)
			}
		}
	}
}

// TestRightOfLikeTimes: they meet, or cover one another, or cost the same, but are not the same.
func TestRightOfLikeTimes(t *testing.T) {
	w := at(3, 3, 4, 4)
	for _, like := range []api.When{at(1, 3, 4, 4), at(7, 3, 4, 4), at(3, 1, 4, 4), at(3, 7, 4, 4), at(3, 3, 5, 4), at(3, 3, 3, 4), at(3, 3, 4, 3), at(3, 3, 4, 5)} {
		wantRight(t, widest(), timedBy(timed(w, 5), timed(like, 5)), true)
		wantRight(t, widest(), timedBy(api.Time{When: like}, api.Time{When: w}), true)
	}
}

func TestRightCosts(t *testing.T) {
	for _, n := range []int{1, 2, 3, 12} {
		for i := range n {
			for _, cost := range append(wild(), 0, 1, 999, 1000, 1001, 1002, 10000) {
				ok := cost >= 0 && cost <= 1000
				c := seated(n, n)
				c.Times[i].Cost = cost
				wantRight(t, widest(), c, ok)
				c = seated(n, n)
				c.Places[i].Cost = cost
				wantRight(t, widest(), c, ok)
			}
		}
	}
	for cost := -20; cost <= 1020; cost++ {
		ok := cost >= 0 && cost <= 1000
		wantRight(t, widest(), costing([]int{cost}, nil), ok)
		wantRight(t, widest(), costing([]int{0}, []int{cost}), ok)
	}
	wantRight(t, widest(), costing(slices.Repeat([]int{1000}, 16), slices.Repeat([]int{1000}, 12)), true)
}

// housedIn is a class that may be, wherever its Places may.
func housedIn(places ...api.Place) api.Class {
	return but(good(), func(c *api.Class) { c.Places = places })
}

func TestRightPlaces(t *testing.T) {
	for n := range 25 {
		wantRight(t, widest(), housedIn(placesOf(n)...), n <= 12)
	}
	wantAmong(t, widest(), 5000, 24, 40, housedIn(placesOf(5000)...), false)
	for rooms := -3; rooms < 30; rooms++ {
		wantAmong(t, widest(), rooms, 24, 40, housedIn(), true)
		wantAmong(t, widest(), rooms, 24, 40, housedIn(api.Place{Room: -1}), false)
		for r := range 32 {
			wantAmong(t, widest(), rooms, 24, 40, housedIn(api.Place{Room: r}), r < rooms)
		}
	}
}

// TestRightByOnePlace: one alone, wherever it stands, is of none of the rooms; they need not rise.
func TestRightByOnePlace(t *testing.T) {
	for _, n := range []int{1, 2, 3, 12} {
		for i := range n {
			for _, r := range append(wild(), 24, 25) {
				c := housedIn(placesOf(n)...)
				slices.Reverse(c.Places)
				wantRight(t, widest(), c, true)
				c.Places[i].Room = r
				wantRight(t, widest(), c, false)
			}
		}
	}
}

// TestRightByTwoPlaces: two are of one room, wherever they stand, whether they cost the same or not.
func TestRightByTwoPlaces(t *testing.T) {
	for _, n := range []int{2, 3, 4, 12} {
		for i := range n {
			for j := range n {
				c := housedIn(placesOf(n)...)
				c.Places[j].Room = c.Places[i].Room
				wantRight(t, widest(), c, i == j)
				c.Places[j].Cost = c.Places[i].Cost
				wantRight(t, widest(), c, i == j)
			}
		}
	}
	wantRight(t, widest(), housedIn(placed(3, 5), placed(4, 5)), true)
}

func TestRightOver(t *testing.T) {
	for classes := -3; classes < 45; classes++ {
		for over := -4; over < 46; over++ {
			wantAmong(t, widest(), 24, 24, classes, but(good(), func(c *api.Class) { c.Over = over }), over >= -1 && over < classes)
		}
	}
}

func TestRightInWrongGrids(t *testing.T) {
	for _, g := range wrongGrids() {
		for _, c := range append(classes(), timedBy(api.Time{When: on(0, 1)})) {
			wantRight(t, g, c, false)
		}
	}
}

func TestRightOfAll(t *testing.T) {
	for _, c := range classes() {
		for _, g := range grids() {
			wantRight(t, g, c, isClass(g, 24, 24, 40, c))
		}
	}
}

// TestRightOfSome: by chance, of several changes at once.
func TestRightOfSome(t *testing.T) {
	chance := rand.New(rand.NewSource(1))
	few := func() int { return chance.Intn(7) - 1 }
	may := 0
	for range 20000 {
		c := api.Class{Name: strings.Repeat("n", 1+chance.Intn(24)), Seats: chance.Intn(10001), Gear: uint16(chance.Intn(1 << 16)), Over: few()}
		for range chance.Intn(3) {
			c.Persons = append(c.Persons, few())
		}
		for range chance.Intn(4) {
			c.Times = append(c.Times, api.Time{When: at(1+uint32(chance.Intn(3)), 1, chance.Intn(5), 1), Cost: chance.Intn(1002)})
		}
		for range chance.Intn(3) {
			c.Places = append(c.Places, api.Place{Room: few(), Cost: chance.Intn(1002)})
		}
		g, rooms, persons, classes := grid(2, 1, 5), few(), few(), few()
		want := isClass(g, rooms, persons, classes, c)
		if want {
			may++
		}
		wantAmong(t, g, rooms, persons, classes, c, want)
	}
	if may < 500 {
		t.Errorf("only %d of these classes may be", may)
	}
}

// P13.1, P13.2: Seat, Whole, Spot, Cost

// TestTold: of each Seat that may be, and of many that may not, whether the class may be or not.
func TestTold(t *testing.T) {
	for _, c := range classes() {
		seats := lay(c)
		for s := range seats {
			wantTold(t, c, s, seats)
		}
		for _, s := range probes(c) {
			wantTold(t, c, s, seats)
		}
	}
}

// TestToldOfEach: of each few times and places each Seat at and about them.
func TestToldOfEach(t *testing.T) {
	for times := range 5 {
		for places := range 5 {
			c := seated(times, places)
			seats := lay(c)
			for time := -3; time <= 6; time++ {
				for place := -3; place <= 6; place++ {
					wantTold(t, c, seat(time, place), seats)
				}
			}
		}
	}
}

func TestKnownSpots(t *testing.T) {
	w, v := at(1, 2, 3, 4), at(4, 3, 2, 1)
	c := api.Class{Times: []api.Time{timed(w, 5), timed(v, 6)}, Places: []api.Place{placed(9, 7), placed(8, 3)}}
	bare := api.Class{Times: c.Times}
	empty := api.Class{Times: c.Times, Places: []api.Place{}}
	untimed := api.Class{Places: c.Places}
	for _, x := range []struct {
		c           api.Class
		s           api.Seat
		seat, whole bool
		spot        api.Spot
		time, place int
	}{
		{c, seat(0, 1), true, true, api.Spot{When: w, Room: 8}, 5, 3},
		{c, seat(1, 0), true, true, api.Spot{When: v, Room: 9}, 6, 7},
		{c, seat(1, -1), true, false, api.Spot{When: v, Room: -2}, 6, 0},
		{c, seat(-1, 1), true, false, api.Spot{Room: 8}, 0, 3},
		{c, seat(-1, -1), true, false, api.Spot{Room: -2}, 0, 0},
		{c, seat(2, 0), false, false, api.Spot{}, 0, 0},
		{c, seat(0, 2), false, false, api.Spot{}, 0, 0},
		{c, seat(-2, 0), false, false, api.Spot{}, 0, 0},
		{c, seat(0, -2), false, false, api.Spot{}, 0, 0},
		{bare, seat(0, -1), true, true, api.Spot{When: w, Room: -1}, 5, 0},
		{bare, seat(-1, -1), true, false, api.Spot{Room: -1}, 0, 0},
		{bare, seat(0, 0), false, false, api.Spot{}, 0, 0},
		{bare, seat(0, -2), false, false, api.Spot{}, 0, 0},
		{empty, seat(1, -1), true, true, api.Spot{When: v, Room: -1}, 6, 0},
		{untimed, seat(-1, 0), true, false, api.Spot{Room: 9}, 0, 7},
		{untimed, seat(-1, -1), true, false, api.Spot{Room: -2}, 0, 0},
		{untimed, seat(0, 0), false, false, api.Spot{}, 0, 0},
		{api.Class{}, seat(-1, -1), true, false, api.Spot{Room: -1}, 0, 0},
		{api.Class{}, api.Seat{}, false, false, api.Spot{}, 0, 0},
	} {
		seats := map[api.Seat]told{}
		if x.seat {
			seats[x.s] = told{x.whole, x.spot, x.time, x.place}
		}
		wantTold(t, x.c, x.s, seats)
	}
}

// P13.3, P13.4: Count and Seats

func TestSeats(t *testing.T) {
	wantSeats(t, seated(1, 0), []api.Seat{seat(0, -1)})
	wantSeats(t, seated(3, 0), []api.Seat{seat(0, -1), seat(1, -1), seat(2, -1)})
	wantSeats(t, api.Class{Times: timesOf(2), Places: []api.Place{}}, []api.Seat{seat(0, -1), seat(1, -1)})
	wantSeats(t, seated(1, 1), []api.Seat{seat(0, 0)})
	wantSeats(t, seated(3, 2), []api.Seat{seat(0, 0), seat(0, 1), seat(1, 0), seat(1, 1), seat(2, 0), seat(2, 1)})
	wantSeats(t, seated(0, 0), nil)
	wantSeats(t, seated(0, 5), nil)
	wantSeats(t, api.Class{}, nil)
	wantSeats(t, api.Class{Times: []api.Time{}, Places: placesOf(2)}, nil)
}

// TestSeatsOfAll: Count and Seats are what is laid, each whole, each once; so as the class stands, also with more times and places than may be.
func TestSeatsOfAll(t *testing.T) {
	list := classes()
	for times := range 18 {
		for places := range 14 {
			list = append(list, seated(times, places))
		}
	}
	for _, c := range list {
		wantSeats(t, c, wholes(c))
		seen := map[api.Seat]bool{}
		for s := range class.Seats(c) {
			if !class.Whole(c, s) || seen[s] {
				t.Errorf("of %v: %v is told, is whole: %v, was told: %v", c, s, class.Whole(c, s), seen[s])
			}
			seen[s] = true
		}
		if class.Count(c) != len(seen) {
			t.Errorf("of %v: Count = %d, and there are %d Seats", c, class.Count(c), len(seen))
		}
	}
}

func TestCount(t *testing.T) {
	for times, count := range map[int]int{0: 0, 1: 12, 2: 24, 16: 192, 17: 204, 1000: 12000} {
		if got := class.Count(seated(times, 12)); got != count {
			t.Errorf("of %d times and 12 places: Count = %d", times, got)
		}
		if got := class.Count(seated(times, 0)); got != times {
			t.Errorf("of %d times alone: Count = %d", times, got)
		}
	}
	if got := class.Count(seated(1500, 1300)); got != 1950000 {
		t.Errorf("of 1500 times and 1300 places: Count = %d", got)
	}
}

// TestSeatsLeft: at each one; what was told till then is the row's beginning, and the next going through starts anew.
func TestSeatsLeft(t *testing.T) {
	for _, c := range []api.Class{good(), seated(1, 0), seated(5, 0), seated(1, 1), seated(2, 3), seated(16, 12), seated(17, 13)} {
		want, seats := wholes(c), class.Seats(c)
		for stop := 1; stop <= len(want); stop++ {
			var got []api.Seat
			for s := range seats {
				got = append(got, s)
				if len(got) == stop {
					break
				}
			}
			if !slices.Equal(got, want[:stop]) {
				t.Fatalf("of %v: left at %d it told %v", c, stop, got)
			}
		}
		if got := slices.Collect(seats); !slices.Equal(got, want) {
			t.Errorf("of %v: Seats are %v behind all that", c, got)
		}
	}
}

// TestSeatsAskedOn: whoever goes on is told, whoever answers false is told no more.
func TestSeatsAskedOn(t *testing.T) {
	for _, c := range []api.Class{seated(3, 0), seated(3, 2), seated(2, 3)} {
		for stop := 1; stop <= class.Count(c); stop++ {
			calls := 0
			class.Seats(c)(func(api.Seat) bool {
				calls++
				return calls < stop
			})
			if calls != stop {
				t.Errorf("of %v: told to end at %d it told %d", c, stop, calls)
			}
		}
	}
}

// TestSeatsTwice: one behind the other, and one within the other.
func TestSeatsTwice(t *testing.T) {
	for _, c := range classes() {
		want, seats := wholes(c), class.Seats(c)
		for range 2 {
			if got := slices.Collect(seats); !slices.Equal(got, want) {
				t.Errorf("of %v: Seats are %v, want %v", c, got, want)
			}
		}
		if len(want) > 200 {
			continue
		}
		var got []api.Seat
		for s := range seats {
			if inner := slices.Collect(seats); !slices.Equal(inner, want) {
				t.Errorf("of %v: within %v Seats are %v", c, s, inner)
			}
			got = append(got, s)
		}
		if !slices.Equal(got, want) {
			t.Errorf("of %v: Seats are %v about others", c, got)
		}
	}
}

// TestSeatsAreNeverNil: where there is nothing, it ends at once.
func TestSeatsAreNeverNil(t *testing.T) {
	for _, c := range []api.Class{{}, seated(0, 0), seated(0, 3)} {
		seats := class.Seats(c)
		if seats == nil {
			t.Fatalf("of %v: Seats are nil", c)
		}
		for s := range seats {
			t.Errorf("of %v: %v is told", c, s)
		}
	}
}

// TestSeatsOfThen: what is done with the class ahead of its being gone through, and meanwhile, changes nothing.
func TestSeatsOfThen(t *testing.T) {
	c := seated(3, 2)
	want, seats := wholes(c), class.Seats(c)
	c.Times, c.Places = append(c.Times[:1], timesOf(9)...), nil
	if got := slices.Collect(seats); !slices.Equal(got, want) {
		t.Errorf("behind a change Seats are %v, want %v", got, want)
	}
	c = seated(3, 2)
	var got []api.Seat
	for s := range class.Seats(c) {
		got = append(got, s)
		clear(c.Times)
		c.Times, c.Places = c.Times[:1], c.Places[:1]
	}
	if !slices.Equal(got, want) {
		t.Errorf("changed meanwhile Seats are %v, want %v", got, want)
	}
}

// P13.3, P13.4: Cheapest

func TestCheapest(t *testing.T) {
	wantCheapest(t, costing([]int{5, 2}, nil), seat(1, -1), 2)
	wantCheapest(t, costing([]int{5, 2, 2}, nil), seat(1, -1), 2)
	wantCheapest(t, costing([]int{2, 5, 2}, nil), seat(0, -1), 2)
	wantCheapest(t, costing([]int{0}, nil), seat(0, -1), 0)
	wantCheapest(t, costing([]int{1000}, []int{1000}), seat(0, 0), 2000)
	wantCheapest(t, costing([]int{3, 1}, []int{4, 2}), seat(1, 1), 3)
	wantCheapest(t, costing([]int{1, 1}, []int{2, 2}), seat(0, 0), 3)
	wantCheapest(t, costing([]int{9, 1, 1}, []int{9, 9, 2, 2}), seat(1, 2), 3)
	wantCheapest(t, costing([]int{-4, -9, -9}, []int{-1, 0, -1}), seat(1, 0), -10)
	wantCheapest(t, costing([]int{-4, -9}, nil), seat(1, -1), -9)
	wantCheapest(t, costing([]int{7}, []int{0, -7, 7}), seat(0, 1), 0)
	wantCheapest(t, api.Class{Times: timesOf(1), Places: []api.Place{}}, seat(0, -1), 3)
}

func TestCheapestOfNone(t *testing.T) {
	for _, c := range []api.Class{{}, seated(0, 0), seated(0, 1), seated(0, 12), costing(nil, []int{-5, 5}), {Times: []api.Time{}, Places: placesOf(3)}} {
		wantCheapest(t, c, api.Seat{}, 0)
	}
}

// TestCheapestByPlace: the least one stands at each place, alone, or with others behind it that cost as much.
func TestCheapestByPlace(t *testing.T) {
	for i := range 16 {
		for j := range 12 {
			c := costing(slices.Repeat([]int{1000}, 16), slices.Repeat([]int{1000}, 12))
			c.Times[i].Cost, c.Places[j].Cost = 999, 0
			wantCheapest(t, c, seat(i, j), 999)
			for k := i; k < 16; k++ {
				c.Times[k].Cost = 999
			}
			wantCheapest(t, c, seat(i, j), 999)
			for k := j; k < 12; k++ {
				c.Places[k].Cost = 0
			}
			wantCheapest(t, c, seat(i, j), 999)
		}
	}
}

// TestCheapestOfEach: of each few costs, those that are alike and those that are below 0 too.
func TestCheapestOfEach(t *testing.T) {
	rows := [][]int{nil}
	for at := 0; len(rows[at]) < 4; at++ {
		for cost := -1; cost <= 1; cost++ {
			rows = append(rows, append(slices.Clone(rows[at]), cost))
		}
	}
	for _, times := range rows {
		for _, places := range rows {
			wantLeast(t, costing(times, places))
		}
	}
}

func TestCheapestOfAll(t *testing.T) {
	for _, c := range classes() {
		wantLeast(t, c)
	}
	chance := rand.New(rand.NewSource(2))
	for range 500 {
		c := seated(1+chance.Intn(16), chance.Intn(13))
		most := 1 + chance.Intn(1001)
		for i := range c.Times {
			c.Times[i].Cost = chance.Intn(most)
		}
		for i := range c.Places {
			c.Places[i].Cost = chance.Intn(most)
		}
		wantLeast(t, c)
	}
}

// TestCheapestIsOneOfThem: as cheap as it says, and none of the Seats is cheaper.
func TestCheapestIsOneOfThem(t *testing.T) {
	for _, c := range []api.Class{good(), seated(16, 12), seated(17, 13), seated(4, 0), costing([]int{3, -3, 8}, []int{5, -5, 5})} {
		best, sum := class.Cheapest(c)
		found := false
		for s := range class.Seats(c) {
			time, place := class.Cost(c, s)
			found = found || s == best && time+place == sum
			if time+place < sum {
				t.Errorf("of %v: %v costs %d, and the cheapest one, %v, %d", c, s, time+place, best, sum)
			}
		}
		if !found {
			t.Errorf("of %v: %v, which costs %d, is none of the Seats", c, best, sum)
		}
	}
}

// TestCheapestOfWildCosts: sums of others may leave the int's range; where the least one itself does, the int that is nearest to it is told.
func TestCheapestOfWildCosts(t *testing.T) {
	const low, high = math.MinInt, math.MaxInt
	list := []int{low, low + 1, -1 << 62, -1 << 32, -1, 0, 1, 1 << 32, 1 << 62, high - 1, high}
	for _, a := range list {
		for _, b := range list {
			for _, c := range list {
				wantLeast(t, costing([]int{a, b}, []int{c}))
				wantLeast(t, costing([]int{a}, []int{b, c}))
				wantLeast(t, costing([]int{a, c}, []int{b, 0}))
			}
		}
	}
	wantCheapest(t, costing([]int{high, 5}, []int{high, 1}), seat(1, 1), 6)
	wantCheapest(t, costing([]int{low, high}, []int{high}), seat(0, 0), -1)
	wantCheapest(t, costing([]int{high}, []int{0}), api.Seat{}, high)
	wantCheapest(t, costing([]int{low}, []int{0}), api.Seat{}, low)
	wantCheapest(t, costing([]int{high}, []int{1}), api.Seat{}, high)
	wantCheapest(t, costing([]int{high, high}, []int{high}), api.Seat{}, high)
	wantCheapest(t, costing([]int{low}, []int{-1}), api.Seat{}, low)
	wantCheapest(t, costing([]int{0, low}, []int{0, low}), seat(1, 1), low)
}

// P13.1: Same

func TestSame(t *testing.T) {
	list := classes()
	for _, a := range list {
		for _, b := range list {
			wantSame(t, a, b, sameClass(a, b))
		}
		wantSame(t, a, but(a, func(c *api.Class) { c.Name = strings.Clone(c.Name) }), true)
	}
}

// TestSameByOneAlone: in all else they are the same.
func TestSameByOneAlone(t *testing.T) {
	for _, a := range classes() {
		for _, change := range []func(*api.Class){
			func(c *api.Class) { c.Name += "x" },
			func(c *api.Class) { c.Name += "\x00" },
			func(c *api.Class) { c.Seats++ },
			func(c *api.Class) { c.Seats += 1 << 32 },
			func(c *api.Class) { c.Gear ^= 1 },
			func(c *api.Class) { c.Gear ^= 1 << 15 },
			func(c *api.Class) { c.Over-- },
			func(c *api.Class) { c.Over += 1 << 32 },
			func(c *api.Class) { c.Persons = append(c.Persons, 0) },
			func(c *api.Class) { c.Persons = append([]int{9}, c.Persons...) },
			func(c *api.Class) { c.Times = append(c.Times, api.Time{}) },
			func(c *api.Class) { c.Times = append([]api.Time{{When: on(90, 1)}}, c.Times...) },
			func(c *api.Class) { c.Places = append(c.Places, api.Place{}) },
			func(c *api.Class) { c.Places = append([]api.Place{{Room: 99}}, c.Places...) },
		} {
			wantSame(t, a, but(a, change), false)
		}
	}
	wantSame(t, api.Class{Name: "c"}, api.Class{Name: "C"}, false)
	wantSame(t, api.Class{Name: "c"}, api.Class{Name: "d"}, false)
}

// TestSameByOneCell: each cell of each row counts.
func TestSameByOneCell(t *testing.T) {
	for _, n := range []int{1, 2, 3, 4, 12, 17, 60} {
		a := api.Class{Persons: upTo(n), Times: timesOf(n), Places: placesOf(n)}
		for i := range n {
			for _, change := range []func(*api.Class){
				func(c *api.Class) { c.Persons[i]++ },
				func(c *api.Class) { c.Persons[i] += 1 << 32 },
				func(c *api.Class) { c.Times[i].When.Weeks ^= 1 << 31 },
				func(c *api.Class) { c.Times[i].When.Days ^= 1 << 7 },
				func(c *api.Class) { c.Times[i].When.Start++ },
				func(c *api.Class) { c.Times[i].When.Len += 1 << 32 },
				func(c *api.Class) { c.Times[i].Cost++ },
				func(c *api.Class) { c.Times[i].Cost -= 1 << 32 },
				func(c *api.Class) { c.Places[i].Room++ },
				func(c *api.Class) { c.Places[i].Room += 1 << 32 },
				func(c *api.Class) { c.Places[i].Cost-- },
				func(c *api.Class) { c.Places[i].Cost += 1 << 32 },
			} {
				wantSame(t, a, but(a, change), false)
			}
		}
		wantSame(t, a, but(a, func(*api.Class) {}), true)
		wantSame(t, a, but(a, func(c *api.Class) { c.Persons = c.Persons[:n-1] }), false)
		wantSame(t, a, but(a, func(c *api.Class) { c.Persons = c.Persons[1:] }), false)
		wantSame(t, a, but(a, func(c *api.Class) { c.Times = c.Times[:n-1] }), false)
		wantSame(t, a, but(a, func(c *api.Class) { c.Times = c.Times[1:] }), false)
		wantSame(t, a, but(a, func(c *api.Class) { c.Places = c.Places[:n-1] }), false)
		wantSame(t, a, but(a, func(c *api.Class) { c.Places = c.Places[1:] }), false)
	}
}

// TestSameByOrder: the same rows, but in another order; or as long, but not of the same things.
func TestSameByOrder(t *testing.T) {
	a := api.Class{Persons: []int{1, 2, 3}, Times: timesOf(3), Places: placesOf(3)}
	for i := range 3 {
		j := (i + 1) % 3
		for _, change := range []func(*api.Class){
			func(c *api.Class) { c.Persons[i], c.Persons[j] = c.Persons[j], c.Persons[i] },
			func(c *api.Class) { c.Times[i], c.Times[j] = c.Times[j], c.Times[i] },
			func(c *api.Class) { c.Times[i].Cost, c.Times[j].Cost = c.Times[j].Cost, c.Times[i].Cost },
			func(c *api.Class) { c.Places[i], c.Places[j] = c.Places[j], c.Places[i] },
			func(c *api.Class) { c.Places[i].Room, c.Places[i].Cost = c.Places[i].Cost, c.Places[i].Room },
		} {
			wantSame(t, a, but(a, change), false)
		}
	}
	wantSame(t, taughtBy(1, 1, 2), taughtBy(1, 2, 2), false)
	wantSame(t, taughtBy(1, 1), taughtBy(1), false)
	// They have the same Seats, or the same moments, but are not the same.
	wantSame(t, seated(0, 1), seated(0, 2), false)
	wantSame(t, timedBy(api.Time{When: at(0, 1, 0, 1)}), timedBy(api.Time{When: at(1, 0, 0, 1)}), false)
	wantSame(t, timedBy(api.Time{}), timedBy(), false)
	wantSame(t, api.Class{Over: 0}, api.Class{Over: -1}, false)
}

func TestSameOfNilAndEmpty(t *testing.T) {
	spare := roomy(api.Class{Name: "c"})
	list := []api.Class{spare}
	for _, persons := range [][]int{nil, {}} {
		for _, times := range [][]api.Time{nil, {}} {
			for _, places := range [][]api.Place{nil, {}} {
				list = append(list, api.Class{Name: "c", Persons: persons, Times: times, Places: places})
			}
		}
	}
	for _, a := range list {
		for _, b := range list {
			wantSame(t, a, b, true)
		}
	}
	wantSame(t, api.Class{}, api.Class{}, true)
}

// R4, R6: what is handed in stays, and what is answered is the same again

// roomy is c with room to spare behind its rows' ends, in which others stand.
func roomy(c api.Class) api.Class {
	c.Persons = slices.Concat(c.Persons, []int{7, 8, 9})[:len(c.Persons)]
	c.Times = slices.Concat(c.Times, timesOf(5))[:len(c.Times)]
	c.Places = slices.Concat(c.Places, placesOf(5))[:len(c.Places)]
	return c
}

// whole is all that stands in c's rows, their spare room too.
func whole(c api.Class) api.Class {
	c.Persons, c.Times, c.Places = c.Persons[:cap(c.Persons)], c.Times[:cap(c.Times)], c.Places[:cap(c.Places)]
	return but(c, func(*api.Class) {})
}

func TestClassesAreNotChanged(t *testing.T) {
	for _, c := range classes() {
		for _, c := range []api.Class{but(c, func(*api.Class) {}), roomy(c)} {
			slices.Reverse(c.Persons)
			slices.Reverse(c.Times)
			slices.Reverse(c.Places)
			was, all := c, whole(c)
			class.Right(widest(), 24, 24, 40, c)
			class.Count(c)
			class.Cheapest(c)
			class.Same(c, good())
			class.Same(good(), c)
			for s := range class.Seats(c) {
				class.Spot(c, s)
				class.Cost(c, s)
			}
			for _, s := range probes(c) {
				class.Seat(c, s)
				class.Whole(c, s)
				class.Spot(c, s)
				class.Cost(c, s)
			}
			if !sameClass(c, was) || !sameClass(whole(c), all) {
				t.Fatalf("%v is another one: %v", all, whole(c))
			}
		}
	}
}

// TestAgain: what was asked ahead changes no answer.
func TestAgain(t *testing.T) {
	c := seated(3, 2)
	for range 3 {
		wantRight(t, widest(), good(), true)
		wantRight(t, grid(1, 1, 1), good(), false)
		wantTold(t, c, seat(2, -1), lay(c))
		wantTold(t, c, seat(3, 0), lay(c))
		wantSeats(t, c, wholes(c))
		wantSeats(t, api.Class{}, nil)
		wantCheapest(t, c, api.Seat{}, 7)
		wantCheapest(t, api.Class{}, api.Seat{}, 0)
		wantSame(t, c, seated(3, 2), true)
		wantSame(t, c, good(), false)
	}
}
