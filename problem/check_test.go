package problem_test

import (
	"fmt"
	"math"
	"math/rand"
	"reflect"
	"slices"
	"strings"
	"testing"

	"horarium/api"
	"horarium/problem"
)

// The chapter's example

func TestExample(t *testing.T) {
	wantCheck(t, bare(), api.OK, 0)
	wantPlans(t, bare(), 1, 1)
	wantPlans(t, bare(), math.MaxInt, 1)
}

// P17.1: Rule

// kinds are those of pairs and of many.
func kinds() []api.RuleKind {
	var out []api.RuleKind
	for k := range api.RuleKind(30) {
		if _, known := numbersOf(k); known {
			out = append(out, k)
		}
	}
	return out
}

// ofKind is a rule that may be among as many classes as it has.
func ofKind(k api.RuleKind, classes ...int) api.Rule {
	n, _ := numbersOf(k)
	return api.Rule{Kind: k, Classes: classes, A: n[0], B: n[2], Cost: 1}
}

func TestRuleByKind(t *testing.T) {
	if len(kinds()) != 18 {
		t.Fatalf("there are %d kinds", len(kinds()))
	}
	for k := api.RuleKind(-300); k < 600; k++ {
		known := k >= 1 && k <= 14 || k >= 21 && k <= 24
		wantRule(t, 2, ofKind(k, 0, 1), known)
		wantRule(t, 40, ofKind(k, 30, 7, 39), known)
	}
	for _, n := range wild() {
		wantRule(t, 2, ofKind(api.RuleKind(n), 0, 1), false)
	}
}

// TestRuleByNumber: no number of a kind that is none is right.
func TestRuleByNumber(t *testing.T) {
	for k := api.RuleKind(-2); k < 30; k++ {
		for a := -2; a < 100; a++ {
			for _, b := range row(-1, 0, 1, 2, 48, 95, 96, 97) {
				r := api.Rule{Kind: k, Classes: row(0, 1), A: a, B: b, Cost: 1}
				wantRule(t, 2, r, isRule(2, r))
				r.A, r.B = b, a
				wantRule(t, 2, r, isRule(2, r))
			}
		}
	}
	for _, k := range kinds() {
		for _, n := range wild() {
			r := ofKind(k, 0, 1)
			r.A = n
			wantRule(t, 2, r, false)
			r = ofKind(k, 0, 1)
			r.B = n
			wantRule(t, 2, r, false)
		}
	}
}

// TestRuleByEachNumber: those that have numbers of their own, at their edges.
func TestRuleByEachNumber(t *testing.T) {
	for _, x := range []struct {
		k     api.RuleKind
		right [][2]int
		wrong [][2]int
	}{
		{api.MostDays, [][2]int{{1, 0}, {7, 0}}, [][2]int{{0, 0}, {8, 0}, {1, 1}, {7, -1}}},
		{api.MostLoad, [][2]int{{1, 0}, {96, 0}}, [][2]int{{0, 0}, {97, 0}, {1, 1}, {96, -1}}},
		{api.MostBreaks, [][2]int{{0, 0}, {48, 0}, {0, 96}, {48, 96}}, [][2]int{{-1, 0}, {49, 0}, {0, -1}, {0, 97}}},
		{api.MostBlock, [][2]int{{1, 0}, {96, 0}, {1, 96}, {96, 96}}, [][2]int{{0, 0}, {97, 0}, {1, -1}, {1, 97}}},
		{api.Within, [][2]int{{1, 0}, {96, 0}}, [][2]int{{0, 0}, {97, 0}, {1, 1}, {96, -1}}},
		{api.Folk, [][2]int{{0, 0}}, [][2]int{{1, 0}, {0, 1}, {-1, 0}, {0, -1}}},
		{api.SameStart, [][2]int{{0, 0}}, [][2]int{{1, 0}, {0, 1}, {-1, 0}, {0, -1}}},
	} {
		for _, n := range x.right {
			wantRule(t, 2, api.Rule{Kind: x.k, Classes: row(0, 1), A: n[0], B: n[1], Hard: true}, true)
		}
		for _, n := range x.wrong {
			wantRule(t, 2, api.Rule{Kind: x.k, Classes: row(0, 1), A: n[0], B: n[1], Hard: true}, false)
		}
	}
}

func TestRuleByCost(t *testing.T) {
	for _, k := range kinds() {
		for cost := -1100; cost < 1100; cost++ {
			r := ofKind(k, 0, 1)
			r.Cost = cost
			wantRule(t, 2, r, cost >= 1 && cost <= 1000)
			r.Hard = true
			wantRule(t, 2, r, cost == 0)
		}
		for _, cost := range wild() {
			r := ofKind(k, 0, 1)
			r.Cost = cost
			wantRule(t, 2, r, false)
			r.Hard = true
			wantRule(t, 2, r, false)
		}
	}
}

func TestRuleByHowManyClasses(t *testing.T) {
	for _, k := range kinds() {
		for n := range 30 {
			up := run(3, n)
			down := slices.Clone(up)
			slices.Reverse(down)
			wantRule(t, 40, ofKind(k, up...), n >= 2 && n <= 12)
			wantRule(t, 40, ofKind(k, down...), n >= 2 && n <= 12)
		}
		wantRule(t, 40, ofKind(k), false)
		wantRule(t, 40, ofKind(k, row()...), false)
		for _, n := range row(256, 258, 268, 1<<16+2) {
			wantRule(t, math.MaxInt, ofKind(k, run(0, n)...), false)
		}
	}
}

// TestRuleOfTheSameClasses: each two places that have the same one, next to each other and apart, of rows that rise, that fall and that do neither.
func TestRuleOfTheSameClasses(t *testing.T) {
	for _, n := range row(2, 3, 4, 12) {
		up := run(0, n)
		down := slices.Clone(up)
		slices.Reverse(down)
		mixed := slices.Clone(up)
		rand.New(rand.NewSource(int64(n))).Shuffle(n, func(i, j int) { mixed[i], mixed[j] = mixed[j], mixed[i] })
		for _, l := range [][]int{up, down, mixed} {
			wantRule(t, n, ofKind(api.Meet, l...), true)
			for i := range n {
				for j := range n {
					same := slices.Clone(l)
					same[i] = same[j]
					wantRule(t, n, ofKind(api.Meet, same...), i == j)
				}
			}
		}
	}
}

// TestRuleByOneClass: one alone, wherever it stands, is none of the classes.
func TestRuleByOneClass(t *testing.T) {
	for _, n := range row(2, 3, 12) {
		for i := range n {
			for _, class := range append(wild(), -1, 40, 41) {
				l := run(20, n)
				l[i] = class
				wantRule(t, 40, ofKind(api.MostLoad, l...), false)
			}
			for _, class := range row(0, 1, 19, 39) {
				l := run(20, n)
				l[i] = class
				wantRule(t, 40, ofKind(api.MostLoad, l...), true)
			}
		}
	}
}

func TestRuleAmong(t *testing.T) {
	for classes := -3; classes < 45; classes++ {
		for class := -2; class < 46; class++ {
			wantRule(t, classes, ofKind(api.Apart, 0, class), 0 < class && class < classes)
			wantRule(t, classes, ofKind(api.Apart, class, 0), 0 < class && class < classes)
			wantRule(t, classes, ofKind(api.Apart, class, 1, 0), 1 < class && class < classes)
		}
	}
	list := append(wild(), -1, 0, 1, 2, 40)
	for _, classes := range list {
		for _, a := range list {
			for _, b := range list {
				r := ofKind(api.Apart, a, b)
				wantRule(t, classes, r, isRule(classes, r))
			}
		}
	}
}

// TestRuleOfEach: each row of up to four of a few numbers, among each few classes.
func TestRuleOfEach(t *testing.T) {
	var each func(l []int)
	each = func(l []int) {
		for classes := range 5 {
			r := ofKind(api.Folk, l...)
			wantRule(t, classes, r, isRule(classes, r))
		}
		if len(l) < 4 {
			for n := -1; n < 5; n++ {
				each(append(slices.Clone(l), n))
			}
		}
	}
	each(nil)
}

// P17.1: Check of problems that may be

func TestCheckOfRightOnes(t *testing.T) {
	for _, p := range []api.Problem{good(), full(), bare(), copyOf(bare()), roomy(good()), roomy(full()), roomy(bare())} {
		wantCheck(t, p, api.OK, 0)
		wantThat(t, p)
	}
}

// TestCheckBySize: up to the limit and one beyond it, of one kind alone and of all.
func TestCheckBySize(t *testing.T) {
	for n := range 26 {
		wantThat(t, sized(size{n, n, n + 2, n, n, n}))
		wantThat(t, sized(size{rooms: n}))
		wantThat(t, sized(size{persons: n}))
		wantThat(t, sized(size{classes: n}))
		wantThat(t, sized(size{classes: 1, courses: n}))
		wantThat(t, sized(size{students: n}))
		wantThat(t, sized(size{classes: 2, rules: n}))
	}
}

func TestCheckWithoutAKind(t *testing.T) {
	for _, n := range []size{
		{0, 6, 7, 4, 5, 6}, {5, 0, 7, 4, 5, 6}, {5, 6, 7, 0, 5, 6}, {5, 6, 7, 4, 0, 6}, {5, 6, 7, 4, 5, 0},
		{5, 6, 0, 0, 5, 0}, {5, 6, 1, 3, 5, 0}, {0, 0, 2, 0, 0, 1}, {0, 0, 1, 0, 0, 0}, {0, 0, 0, 0, 1, 0}, {1, 0, 0, 0, 0, 0}, {0, 1, 0, 0, 0, 0},
	} {
		wantCheck(t, sized(n), api.OK, 0)
	}
}

// P17.1: Check of one wrong thing

func TestCheckName(t *testing.T) {
	for n := range 300 {
		p := but(good(), func(p *api.Problem) { p.Name = strings.Repeat("\xff", n) })
		if n >= 1 && n <= 24 {
			wantCheck(t, p, api.OK, 0)
		} else {
			wantCheck(t, p, api.ErrProblem, 0)
		}
	}
	for _, s := range []string{"", strings.Repeat("a", 25), strings.Repeat("\u20ac", 9)} {
		for _, p := range []api.Problem{good(), full(), bare()} {
			wantCheck(t, but(p, func(p *api.Problem) { p.Name = s }), api.ErrProblem, 0)
		}
	}
	wantCheck(t, api.Problem{}, api.ErrProblem, 0)
	wantCheck(t, but(good(), func(p *api.Problem) { p.Name = strings.Repeat("\u20ac", 8) }), api.OK, 0)
}

func TestCheckGrid(t *testing.T) {
	for _, n := range append(wild(), -1, 0, 1, 7, 8, 20, 21, 96, 97) {
		for _, g := range []api.Grid{{Weeks: n, Days: 7, Slots: 96}, {Weeks: 20, Days: n, Slots: 96}, {Weeks: 20, Days: 7, Slots: n}, {Weeks: n, Days: n, Slots: n}} {
			want := api.ErrGrid
			if isGrid(g) {
				want = api.OK
			}
			wantCheck(t, but(bare(), func(p *api.Problem) { p.Grid = g }), want, 0)
		}
	}
	for _, p := range []api.Problem{good(), full(), bare()} {
		for _, g := range []api.Grid{{}, {Weeks: 21, Days: 5, Slots: 10}, {Weeks: 3, Days: 8, Slots: 10}, {Weeks: 3, Days: 5, Slots: 97}, {Weeks: 0, Days: 5, Slots: 10}, {Weeks: 3, Days: 0, Slots: 10}, {Weeks: 3, Days: 5}} {
			wantCheck(t, but(p, func(p *api.Problem) { p.Grid = g }), api.ErrGrid, 0)
		}
	}
}

// TestCheckInItsGrid: what may be in one grid may not be in another one.
func TestCheckInItsGrid(t *testing.T) {
	for _, g := range []api.Grid{{Weeks: 2, Days: 5, Slots: 10}, {Weeks: 3, Days: 4, Slots: 10}, {Weeks: 3, Days: 5, Slots: 7}, {Weeks: 20, Days: 7, Slots: 96}} {
		for _, n := range []size{{5, 6, 7, 4, 5, 6}, {0, 6, 7, 4, 5, 6}, {0, 0, 7, 4, 5, 6}} {
			p := sized(n)
			p.Grid = g
			wantThat(t, p)
		}
	}
}

// spoil makes the thing of the number i wrong.
type spoil func(p *api.Problem, i int)

// kind is one of those whose things have names.
type kind struct {
	err    api.Errno
	most   int
	of     func(n int) api.Problem             // a problem with so many of them
	name   func(p *api.Problem, i int) *string // that of the i-th
	spoils map[string]spoil                    // for each reason for which one may not be
}

func roomKind() kind {
	return kind{
		err: api.ErrRoom, most: 24,
		of:   func(n int) api.Problem { return sized(size{n, 6, 7, 4, 5, 6}) },
		name: func(p *api.Problem, i int) *string { return &p.Rooms[i].Name },
		spoils: map[string]spoil{
			"no seats":     func(p *api.Problem, i int) { p.Rooms[i].Seats = -1 },
			"many seats":   func(p *api.Problem, i int) { p.Rooms[i].Seats = 10001 },
			"17 shut":      func(p *api.Problem, i int) { p.Rooms[i].Shut = slices.Repeat([]api.When{someTime(i)}, 17) },
			"a shut":       func(p *api.Problem, i int) { p.Rooms[i].Shut = []api.When{someTime(i), {}} },
			"a late shut":  func(p *api.Problem, i int) { p.Rooms[i].Shut[0].Start = 10 },
			"a shut week":  func(p *api.Problem, i int) { p.Rooms[i].Shut[1].Weeks = 8 },
			"a shut day":   func(p *api.Problem, i int) { p.Rooms[i].Shut[1].Days = 32 },
			"a long shut":  func(p *api.Problem, i int) { p.Rooms[i].Shut[1].Len = 11 },
			"a void shut":  func(p *api.Problem, i int) { p.Rooms[i].Shut[1].Len = 0 },
			"an early one": func(p *api.Problem, i int) { p.Rooms[i].Shut[0].Start = -1 },
		},
	}
}

func personKind() kind {
	return kind{
		err: api.ErrPerson, most: 24,
		of:   func(n int) api.Problem { return sized(size{5, n, 7, 4, 5, 6}) },
		name: func(p *api.Problem, i int) *string { return &p.Persons[i].Name },
		spoils: map[string]spoil{
			"17 away":    func(p *api.Problem, i int) { p.Persons[i].Away = slices.Repeat([]api.When{someTime(i)}, 17) },
			"an away":    func(p *api.Problem, i int) { p.Persons[i].Away = append(p.Persons[i].Away, api.When{}) },
			"a late one": func(p *api.Problem, i int) { p.Persons[i].Away[0].Start = 10 },
			"a week":     func(p *api.Problem, i int) { p.Persons[i].Away[1].Weeks = 8 },
			"a day":      func(p *api.Problem, i int) { p.Persons[i].Away[1].Days = 32 },
		},
	}
}

func classKind() kind {
	on := func(change func(c *api.Class)) spoil {
		return func(p *api.Problem, i int) { change(&p.Classes[i]) }
	}
	return kind{
		err: api.ErrClass, most: 40,
		of:   func(n int) api.Problem { return sized(size{24, 24, n, 0, 5, 0}) },
		name: func(p *api.Problem, i int) *string { return &p.Classes[i].Name },
		spoils: map[string]spoil{
			"no seats":         on(func(c *api.Class) { c.Seats = -1 }),
			"many seats":       on(func(c *api.Class) { c.Seats = 10001 }),
			"five persons":     on(func(c *api.Class) { c.Persons = row(0, 1, 2, 3, 4) }),
			"falling persons":  on(func(c *api.Class) { c.Persons = row(2, 1) }),
			"a person twice":   on(func(c *api.Class) { c.Persons = row(1, 1) }),
			"a person below":   on(func(c *api.Class) { c.Persons = row(-1, 1) }),
			"no such person":   on(func(c *api.Class) { c.Persons = row(0, 24) }),
			"no times":         on(func(c *api.Class) { c.Times = nil }),
			"17 times":         on(func(c *api.Class) { c.Times = timesOf(17) }),
			"a time":           on(func(c *api.Class) { c.Times[2].When = api.When{} }),
			"a late time":      on(func(c *api.Class) { c.Times[0].When.Start = 10 }),
			"a week":           on(func(c *api.Class) { c.Times[1].When.Weeks = 8 }),
			"a time twice":     on(func(c *api.Class) { c.Times[2].When = c.Times[0].When }),
			"a time's gain":    on(func(c *api.Class) { c.Times[1].Cost = -1 }),
			"a dear time":      on(func(c *api.Class) { c.Times[1].Cost = 1001 }),
			"13 places":        on(func(c *api.Class) { c.Places = placesOf(13) }),
			"a place below":    on(func(c *api.Class) { c.Places[0].Room = -1 }),
			"no such room":     on(func(c *api.Class) { c.Places[1].Room = 24 }),
			"a place twice":    on(func(c *api.Class) { c.Places[1].Room = c.Places[0].Room }),
			"a place's gain":   on(func(c *api.Class) { c.Places[1].Cost = -1 }),
			"a dear place":     on(func(c *api.Class) { c.Places[1].Cost = 1001 }),
			"over none":        on(func(c *api.Class) { c.Over = -2 }),
			"over no class":    func(p *api.Problem, i int) { p.Classes[i].Over = len(p.Classes) },
			"over a far class": on(func(c *api.Class) { c.Over = math.MaxInt }),
		},
	}
}

func timesOf(n int) []api.Time {
	var out []api.Time
	for i := range n {
		out = append(out, api.Time{When: someTime(i), Cost: i})
	}
	return out
}

func placesOf(n int) []api.Place {
	var out []api.Place
	for i := range n {
		out = append(out, api.Place{Room: i, Cost: i})
	}
	return out
}

func courseKind() kind {
	on := func(ways ...api.Way) spoil {
		return func(p *api.Problem, i int) { p.Courses[i].Ways = ways }
	}
	one := func(parts ...[]int) api.Way { return api.Way{Parts: parts} }
	return kind{
		err: api.ErrCourse, most: 16,
		of:   func(n int) api.Problem { return sized(size{5, 6, 7, n, 0, 6}) },
		name: func(p *api.Problem, i int) *string { return &p.Courses[i].Name },
		spoils: map[string]spoil{
			"no ways":         on(),
			"five ways":       on(slices.Repeat([]api.Way{one(row(0))}, 5)...),
			"no parts":        on(one(row(0)), api.Way{}),
			"five parts":      on(one(row(0), row(1), row(2), row(3), row(4))),
			"no classes":      on(one(row(0), row())),
			"falling classes": on(one(row(2, 1))),
			"a class twice":   on(one(row(1, 1))),
			"in two parts":    on(one(row(1, 2), row(2, 3))),
			"a class below":   on(one(row(-1, 1))),
			"no such class":   on(one(row(0, 7))),
			"a far class":     on(one(row(0)), one(row(1), row(math.MaxInt))),
		},
	}
}

func studentKind() kind {
	on := func(courses ...int) spoil {
		return func(p *api.Problem, i int) { p.Students[i].Courses = courses }
	}
	return kind{
		err: api.ErrStudent, most: 200,
		of:   func(n int) api.Problem { return sized(size{5, 6, 9, 9, n, 6}) },
		name: func(p *api.Problem, i int) *string { return &p.Students[i].Name },
		spoils: map[string]spoil{
			"seven courses":     on(run(0, 7)...),
			"260 courses":       on(run(0, 260)...),
			"falling ones":      on(4, 3),
			"falling late":      on(0, 1, 2, 3, 5, 4),
			"the same twice":    on(3, 3),
			"the same late":     on(0, 2, 3, 4, 4),
			"the same apart":    on(1, 3, 1),
			"a course below":    on(-1),
			"one below more":    on(-1, 2),
			"no such course":    on(9),
			"no such, late":     on(0, 3, 9),
			"a far course":      on(0, math.MaxInt),
			"the least":         on(math.MinInt, 0),
			"about 2 to the 32": on(1<<32, 1<<32+1),
		},
	}
}

func named() []kind {
	return []kind{roomKind(), personKind(), classKind(), courseKind(), studentKind()}
}

// reasons are k's spoils, and those of the names.
func (k kind) reasons() map[string]spoil {
	out := map[string]spoil{
		"no name":     func(p *api.Problem, i int) { *k.name(p, i) = "" },
		"a long name": func(p *api.Problem, i int) { *k.name(p, i) = strings.Repeat("n", 25) },
	}
	for reason, spoil := range k.spoils {
		out[reason] = spoil
	}
	return out
}

// places are some of n: the first and the last ones, and some amid.
func places(n int) []int {
	var out []int
	for i := range n {
		if i < 3 || i > n-4 || i%37 == 5 {
			out = append(out, i)
		}
	}
	return out
}

// TestCheckByReason: one thing alone is wrong, at each place, for each reason.
func TestCheckByReason(t *testing.T) {
	for _, k := range named() {
		for _, n := range row(1, 2, 3, k.most-1, k.most) {
			p := k.of(n)
			wantCheck(t, p, api.OK, 0)
			for _, i := range places(n) {
				for reason, spoil := range k.reasons() {
					wrong := but(p, func(p *api.Problem) { spoil(p, i) })
					if err, at := problem.Check(wrong); err != k.err || at != i || problem.Right(wrong) {
						t.Errorf("of %d things, of which %d has %q: Check is %d, %d, want %d", n, i, reason, err, at, k.err)
					}
				}
			}
		}
	}
}

// TestCheckOfTwoWrong: of one kind the first one is told, whatever the reason.
func TestCheckOfTwoWrong(t *testing.T) {
	for _, k := range named() {
		p := k.of(6)
		for one, spoil := range k.reasons() {
			for other, also := range k.reasons() {
				for i := range 6 {
					j := (i + 2) % 6
					wrong := but(p, func(p *api.Problem) { spoil(p, i); also(p, j) })
					if err, at := problem.Check(wrong); err != k.err || at != min(i, j) {
						t.Errorf("of %q at %d and %q at %d: Check is %d, %d, want %d", one, i, other, j, err, at, k.err)
					}
				}
			}
		}
	}
}

// TestCheckOfTheSameNames: that of the one ahead, of one far ahead; the second one is told.
func TestCheckOfTheSameNames(t *testing.T) {
	for _, k := range named() {
		for _, n := range row(2, 3, k.most) {
			p := k.of(n)
			for _, i := range places(n) {
				for _, j := range places(n) {
					if i != j {
						same := but(p, func(p *api.Problem) { *k.name(p, i) = *k.name(p, j) })
						wantCheck(t, same, k.err, max(i, j))
					}
				}
			}
		}
	}
}

// TestCheckOfNamesInOneLetter: names are held against each other byte by byte.
func TestCheckOfNamesInOneLetter(t *testing.T) {
	for _, k := range named() {
		p := k.of(2)
		for _, x := range [][2]string{{"a", "A"}, {"a", "a "}, {"a", " a"}, {"a", "b"}, {"aa", "a"}, {"\x00", "\x00\x00"}, {strings.Repeat("a", 24), strings.Repeat("a", 23) + "b"}, {"\u00e9", "e\u0301"}, {"\xff", "\xfe"}} {
			wantCheck(t, but(p, func(p *api.Problem) { *k.name(p, 0), *k.name(p, 1) = x[0], x[1] }), api.OK, 0)
			wantCheck(t, but(p, func(p *api.Problem) { *k.name(p, 0), *k.name(p, 1) = x[1], x[0] }), api.OK, 0)
			wantCheck(t, but(p, func(p *api.Problem) { *k.name(p, 0), *k.name(p, 1) = x[0], x[0] }), k.err, 1)
		}
	}
}

// TestCheckOfNamesOfTwoKinds: they may be alike, and that of the problem, too.
func TestCheckOfNamesOfTwoKinds(t *testing.T) {
	p := good()
	for _, k := range named() {
		if *k.name(&p, 0) != "n0" {
			t.Fatalf("the first one has the name %q", *k.name(&p, 0))
		}
		wantCheck(t, but(good(), func(p *api.Problem) { *k.name(p, 2) = p.Name }), api.OK, 0)
	}
	wantCheck(t, p, api.OK, 0)
	p.Name = "n0"
	wantCheck(t, p, api.OK, 0)
	for _, k := range named() {
		*k.name(&p, 3) = "p"
	}
	wantCheck(t, p, api.OK, 0)
}

// TestCheckOfTooMany: the first one too many is told, whatever is wrong with it or behind it, but not ahead of a wrong one.
func TestCheckOfTooMany(t *testing.T) {
	for _, k := range named() {
		for _, n := range row(k.most+1, k.most+2, k.most+9) {
			p := k.of(n)
			wantCheck(t, p, k.err, k.most)
			for reason, spoil := range k.reasons() {
				for _, i := range append(places(n), k.most-1, k.most, k.most+1) {
					if i >= n {
						continue
					}
					wrong := but(p, func(p *api.Problem) { spoil(p, i) })
					if err, at := problem.Check(wrong); err != k.err || at != min(i, k.most) {
						t.Errorf("of %d things, of which %d has %q: Check is %d, %d, want %d", n, i, reason, err, at, k.err)
					}
				}
			}
			for _, i := range row(1, k.most-1, k.most) {
				same := but(p, func(p *api.Problem) { *k.name(p, i) = *k.name(p, 0) })
				wantCheck(t, same, k.err, i)
			}
		}
	}
}

// TestCheckOfFarTooMany: a number that is cut short would be a small one.
func TestCheckOfFarTooMany(t *testing.T) {
	p := good()
	for range 260 {
		i := len(p.Rooms)
		p.Rooms = append(p.Rooms, roomOf(i))
	}
	wantCheck(t, p, api.ErrRoom, 24)
	p = good()
	for i := range 1<<16 + 1 {
		p.Students = append(p.Students, studentOf(i+5, 4))
	}
	wantCheck(t, p, api.ErrStudent, 200)
	p = good()
	for range 1<<16 + 1 {
		p.Rules = append(p.Rules, ruleOf(0, 7))
	}
	wantCheck(t, p, api.ErrRule, 60)
}

// P17.1: numbers that name what there is not

// TestCheckOfNumbers: each number of a room, a person, a class or a course, wherever it stands, is from 0 (an Over from -1) below how many there are.
func TestCheckOfNumbers(t *testing.T) {
	list := append(wild(), -1, 0, 1, 2, 3, 4, 5, 6, 7, 8, 23, 24, 25, 39, 40, 41)
	for _, n := range list {
		for _, change := range []func(*api.Problem){
			func(p *api.Problem) { p.Classes[0].Places = []api.Place{{Room: n}} },
			func(p *api.Problem) { p.Classes[6].Places = []api.Place{{Room: n}} },
			func(p *api.Problem) { p.Classes[3].Persons = row(n) },
			func(p *api.Problem) { p.Classes[6].Persons = row(n) },
			func(p *api.Problem) { p.Classes[0].Over = n },
			func(p *api.Problem) { p.Classes[4].Over = n },
			func(p *api.Problem) { p.Courses[0].Ways = []api.Way{{Parts: [][]int{{n}}}} },
			func(p *api.Problem) { p.Courses[3].Ways = []api.Way{{Parts: [][]int{{n}}}} },
			func(p *api.Problem) { p.Students[0].Courses = row(n) },
			func(p *api.Problem) { p.Students[4].Courses = row(n) },
			func(p *api.Problem) { p.Rules[0].Classes = row(0, n) },
			func(p *api.Problem) { p.Rules[5].Classes = row(n, 1) },
		} {
			wantThat(t, but(good(), change))
		}
	}
}

// TestCheckOfFewer: the numbers stay, and what they name goes.
func TestCheckOfFewer(t *testing.T) {
	for n := range 7 {
		wantThat(t, but(good(), func(p *api.Problem) { p.Rooms, p.Walk = p.Rooms[:min(n, 5)], walkOf(min(n, 5)) }))
		wantThat(t, but(good(), func(p *api.Problem) { p.Persons = p.Persons[:min(n, 6)] }))
		wantThat(t, but(good(), func(p *api.Problem) { p.Classes = p.Classes[:n] }))
		wantThat(t, but(good(), func(p *api.Problem) { p.Classes, p.Courses = p.Classes[:n], nil }))
		wantThat(t, but(good(), func(p *api.Problem) { p.Classes, p.Courses, p.Students = p.Classes[:n], nil, nil }))
		wantThat(t, but(good(), func(p *api.Problem) { p.Courses = p.Courses[:min(n, 4)] }))
	}
}

// P17.1: walks

func TestCheckWalk(t *testing.T) {
	for n := range 25 {
		p := sized(size{rooms: n})
		wrong := func(walk [][]int) {
			t.Helper()
			wantCheck(t, but(p, func(p *api.Problem) { p.Walk = walk }), api.ErrRoom, n)
		}
		wantCheck(t, p, api.OK, 0)
		wrong(append(walkOf(n), nil))
		wrong(walkOf(n + 1))
		wrong(append(walkOf(n), make([]int, n)))
		if n == 0 {
			continue
		}
		wrong(nil)
		wrong(walkOf(n)[:n-1])
		wrong(walkOf(n)[1:])
		wrong(walkOf(n - 1))
		for _, a := range row(0, n/2, n-1) {
			walk := walkOf(n)
			walk[a] = walk[a][:n-1]
			wrong(walk)
			walk = walkOf(n)
			walk[a] = append(walk[a], 0)
			wrong(walk)
			walk = walkOf(n)
			walk[a] = nil
			wrong(walk)
			for _, b := range row(0, n/2, n-1) {
				for _, slots := range append(wild(), -1, 97, 98) {
					walk = walkOf(n)
					walk[a][b], walk[b][a] = slots, slots
					wrong(walk)
				}
				walk = walkOf(n)
				walk[a][b]++
				wrong(walk)
			}
		}
	}
}

// TestCheckRoomsAheadOfWalk: a room that is wrong is told, also beside walks that are.
func TestCheckRoomsAheadOfWalk(t *testing.T) {
	for _, n := range row(1, 2, 5, 24) {
		for _, walk := range [][][]int{nil, walkOf(n - 1), walkOf(n + 1), walkOf(3)[:2]} {
			for i := range n {
				p := sized(size{rooms: n})
				p.Walk = walk
				p.Rooms[i].Seats = -1
				wantCheck(t, p, api.ErrRoom, i)
			}
		}
	}
	for _, n := range row(25, 26, 40) {
		p := sized(size{rooms: n})
		p.Walk = nil
		wantCheck(t, p, api.ErrRoom, 24)
		p.Rooms[7].Seats = -1
		wantCheck(t, p, api.ErrRoom, 7)
	}
}

// P17.1: students

func TestCheckStudents(t *testing.T) {
	for _, courses := range []int{0, 1, 3, 6, 7, 16} {
		for n := range 12 {
			p := sized(size{classes: 2, courses: courses, students: 3})
			p.Students[1].Courses = run(0, n)
			if n <= min(courses, 6) {
				wantCheck(t, p, api.OK, 0)
			} else {
				wantCheck(t, p, api.ErrStudent, 1)
			}
		}
	}
}

// TestCheckStudentsOfEach: each row of up to four of a few numbers, among each few courses.
func TestCheckStudentsOfEach(t *testing.T) {
	var each func(l []int)
	each = func(l []int) {
		for courses := range 5 {
			p := sized(size{classes: 2, courses: courses, students: 2})
			p.Students[1].Courses = l
			wantThat(t, p)
		}
		if len(l) < 4 {
			for n := -1; n < 5; n++ {
				each(append(slices.Clone(l), n))
			}
		}
	}
	each(nil)
}

// P17.1: rules

func ruleSpoils() map[string]spoil {
	on := func(change func(r *api.Rule)) spoil {
		return func(p *api.Problem, i int) { change(&p.Rules[i]) }
	}
	return map[string]spoil{
		"no kind":       on(func(r *api.Rule) { r.Kind = 0 }),
		"15":            on(func(r *api.Rule) { r.Kind = 15 }),
		"one class":     on(func(r *api.Rule) { r.Classes = row(0) }),
		"13 classes":    on(func(r *api.Rule) { r.Classes = run(0, 13) }),
		"a class twice": on(func(r *api.Rule) { r.Classes = row(2, 1, 2) }),
		"a class below": on(func(r *api.Rule) { r.Classes = row(-1, 1) }),
		"no such class": on(func(r *api.Rule) { r.Classes = row(0, 14) }),
		"an A":          on(func(r *api.Rule) { r.A = 97 }),
		"a B":           on(func(r *api.Rule) { r.B = -1 }),
		"a Cost":        on(func(r *api.Rule) { r.Cost = 1001 }),
		"a gain":        on(func(r *api.Rule) { r.Cost = -1 }),
		"no Cost":       on(func(r *api.Rule) { r.Hard, r.Cost = false, 0 }),
		"a hard Cost":   on(func(r *api.Rule) { r.Hard, r.Cost = true, 1 }),
	}
}

func TestCheckRules(t *testing.T) {
	for _, n := range row(1, 2, 3, 59, 60, 61, 62, 70) {
		p := sized(size{5, 6, 14, 4, 5, n})
		wantThat(t, p)
		if n <= 60 {
			wantCheck(t, p, api.OK, 0)
		} else {
			wantCheck(t, p, api.ErrRule, 60)
		}
		for _, i := range places(n) {
			for reason, spoil := range ruleSpoils() {
				wrong := but(p, func(p *api.Problem) { spoil(p, i) })
				if err, at := problem.Check(wrong); err != api.ErrRule || at != min(i, 60) || problem.Right(wrong) {
					t.Errorf("of %d rules, of which %d has %q: Check is %d, %d", n, i, reason, err, at)
				}
			}
		}
	}
}

// TestCheckOfLikeRules: rules have no names, and may be the same.
func TestCheckOfLikeRules(t *testing.T) {
	p := good()
	p.Rules = slices.Repeat([]api.Rule{ofKind(api.MostDays, 3, 1)}, 60)
	wantCheck(t, p, api.OK, 0)
	p.Rules = append(p.Rules, p.Rules[0])
	wantCheck(t, p, api.ErrRule, 60)
}

func TestCheckRuleByEach(t *testing.T) {
	for _, k := range kinds() {
		for _, hard := range []bool{false, true} {
			for _, cost := range row(-1, 0, 1, 1000, 1001) {
				for _, a := range row(-1, 0, 1, 7, 8, 48, 49, 96, 97) {
					p := good()
					p.Rules[4] = api.Rule{Kind: k, Classes: row(4, 2), A: a, Hard: hard, Cost: cost}
					wantThat(t, p)
				}
			}
		}
	}
}

// P17.1: weights

func TestCheckWeigh(t *testing.T) {
	for _, n := range append(wild(), -1, 0, 1, 999, 1000, 1001) {
		for _, w := range []api.Weigh{{Time: n}, {Place: n}, {Rule: n}, {Clash: n}, {Time: n, Place: n, Rule: n, Clash: n}, {Time: n, Clash: 1000}, {Time: 1000, Place: 1000, Rule: 1000, Clash: n}} {
			want := api.ErrWeigh
			if n >= 0 && n <= 1000 {
				want = api.OK
			}
			wantCheck(t, but(good(), func(p *api.Problem) { p.Weigh = w }), want, 0)
			wantCheck(t, but(bare(), func(p *api.Problem) { p.Weigh = w }), want, 0)
		}
	}
}

// P17.1: the order

// fault is something that is wrong with a problem as good is, and what is told of it.
type fault struct {
	err   api.Errno
	n     int
	wrong func(p *api.Problem)
}

// faults are some for each thing that Check looks at, in the chapter's order.
func faults() [][]fault {
	return [][]fault{
		{{api.ErrProblem, 0, func(p *api.Problem) { p.Name = "" }}},
		{{api.ErrGrid, 0, func(p *api.Problem) { p.Grid.Weeks = 0 }}, {api.ErrGrid, 0, func(p *api.Problem) { p.Grid.Days = 8 }}, {api.ErrGrid, 0, func(p *api.Problem) { p.Grid.Slots = 97 }}},
		{{api.ErrRoom, 0, func(p *api.Problem) { p.Rooms[0].Seats = -1 }}, {api.ErrRoom, 3, func(p *api.Problem) { p.Rooms[3].Name = "n2" }}, {api.ErrRoom, 4, func(p *api.Problem) { p.Rooms[4].Name = "" }}},
		{{api.ErrRoom, 5, func(p *api.Problem) { p.Walk = nil }}, {api.ErrRoom, 5, func(p *api.Problem) { p.Walk[4][3]++ }}},
		{{api.ErrPerson, 0, func(p *api.Problem) { p.Persons[0].Name = "" }}, {api.ErrPerson, 5, func(p *api.Problem) { p.Persons[5].Away[0].Weeks = 8 }}, {api.ErrPerson, 4, func(p *api.Problem) { p.Persons[4].Name = "n0" }}},
		{{api.ErrClass, 0, func(p *api.Problem) { p.Classes[0].Times = nil }}, {api.ErrClass, 6, func(p *api.Problem) { p.Classes[6].Over = 7 }}, {api.ErrClass, 3, func(p *api.Problem) { p.Classes[3].Name = "n1" }}},
		{{api.ErrCourse, 0, func(p *api.Problem) { p.Courses[0].Ways = nil }}, {api.ErrCourse, 3, func(p *api.Problem) { p.Courses[3].Ways[0].Parts[0][0] = 7 }}, {api.ErrCourse, 1, func(p *api.Problem) { p.Courses[1].Name = "n0" }}},
		{{api.ErrStudent, 0, func(p *api.Problem) { p.Students[0].Name = "" }}, {api.ErrStudent, 4, func(p *api.Problem) { p.Students[4].Courses = row(4) }}, {api.ErrStudent, 2, func(p *api.Problem) { p.Students[2].Name = "n1" }}},
		{{api.ErrRule, 0, func(p *api.Problem) { p.Rules[0].Kind = 20 }}, {api.ErrRule, 5, func(p *api.Problem) { p.Rules[5].Cost = 2000 }}},
		{{api.ErrWeigh, 0, func(p *api.Problem) { p.Weigh.Clash = -1 }}, {api.ErrWeigh, 0, func(p *api.Problem) { p.Weigh.Time = 1001 }}},
	}
}

// TestCheckInOrder: of each two, and of one and all behind it, the one that stands ahead is told.
func TestCheckInOrder(t *testing.T) {
	all := faults()
	for i, ahead := range all {
		for _, x := range ahead {
			wantCheck(t, but(good(), x.wrong), x.err, x.n)
			for _, behind := range all[i+1:] {
				for _, y := range behind {
					wantCheck(t, but(good(), func(p *api.Problem) { x.wrong(p); y.wrong(p) }), x.err, x.n)
					wantCheck(t, but(good(), func(p *api.Problem) { y.wrong(p); x.wrong(p) }), x.err, x.n)
				}
			}
			wantCheck(t, but(good(), func(p *api.Problem) {
				x.wrong(p)
				for _, behind := range all[i+1:] {
					behind[len(behind)-1].wrong(p)
				}
			}), x.err, x.n)
		}
	}
}

// TestCheckOfTooManyInOrder: too many of one kind are told ahead of what is wrong with another one behind it, and behind what is wrong ahead.
func TestCheckOfTooManyInOrder(t *testing.T) {
	wantCheck(t, wide(), api.ErrRoom, 24)
	for i, want := range []struct {
		err api.Errno
		n   int
	}{{api.ErrRoom, 24}, {api.ErrPerson, 24}, {api.ErrClass, 40}, {api.ErrCourse, 16}, {api.ErrStudent, 200}, {api.ErrRule, 60}, {api.OK, 0}} {
		n := size{30, 30, 50, 20, 220, 70}
		for j, count := range []*int{&n.rooms, &n.persons, &n.classes, &n.courses, &n.students, &n.rules} {
			if j < i {
				*count = []int{5, 6, 14, 4, 5, 6}[j]
			}
		}
		wantCheck(t, sized(n), want.err, want.n)
		wantCheck(t, but(sized(n), func(p *api.Problem) { p.Name = "" }), api.ErrProblem, 0)
	}
}

// P17.1: by chance

// anyWrong changes one number, one text, one bool or one row of p.
func anyWrong(chance *rand.Rand, p *api.Problem) {
	var all, lines []reflect.Value
	leaves(inside(p), "", func(_ string, x reflect.Value) { all = append(all, x) })
	rows(inside(p), "", func(_ string, x reflect.Value) { lines = append(lines, x) })
	if x := lines[chance.Intn(len(lines))]; chance.Intn(4) == 0 && x.Len() > 0 {
		switch i := chance.Intn(x.Len()); chance.Intn(3) {
		case 0:
			x.Set(x.Slice(0, i))
		case 1:
			x.Set(reflect.Append(x, deep(x.Index(i), 0)))
		case 2:
			x.Index(i).Set(deep(x.Index(chance.Intn(x.Len())), 0))
		}
		return
	}
	switch x := all[chance.Intn(len(all))]; x.Kind() {
	case reflect.Int:
		list := append(wild(), -1, 0, 1, 2, 3, 5, 7, 12, 40, 96, 1000)
		x.SetInt(int64(list[chance.Intn(len(list))]))
	case reflect.String:
		list := []string{"", strings.Repeat("n", 24), strings.Repeat("n", 25), "p", "n0", "n1", "n2", "n3", "n4", "n5"}
		x.SetString(list[chance.Intn(len(list))])
	default:
		change(x, 1<<chance.Intn(9))
	}
}

func TestCheckByChance(t *testing.T) {
	chance := rand.New(rand.NewSource(17))
	met := map[string]int{}
	for range 8000 {
		p := good()
		for range 1 + chance.Intn(3) {
			anyWrong(chance, &p)
		}
		err, n := checkThat(p)
		wantCheck(t, p, err, n)
		met[fmt.Sprint(err)]++
		if t.Failed() {
			t.Fatalf("of %+v", p)
		}
	}
	for _, err := range []api.Errno{api.OK, api.ErrProblem, api.ErrGrid, api.ErrRoom, api.ErrPerson, api.ErrClass, api.ErrCourse, api.ErrStudent, api.ErrRule, api.ErrWeigh} {
		if met[fmt.Sprint(err)] == 0 {
			t.Errorf("no problem had the error %d: %v", err, met)
		}
	}
}
