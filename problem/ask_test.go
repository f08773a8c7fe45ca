package problem_test

import (
	"math"
	"math/big"
	"math/rand"
	"slices"
	"strings"
	"testing"

	"horarium/api"
	"horarium/problem"
)

// P17.2: Plans

// seats is a class of so many times and places.
func seats(i, times, places int) api.Class {
	return api.Class{Name: name(i), Times: timesOf(times), Places: placesOf(places), Over: -1}
}

// seated has a class for each two numbers: so many times and places.
func seated(counts ...[2]int) api.Problem {
	p := sized(size{rooms: 12})
	for i, n := range counts {
		p.Classes = append(p.Classes, seats(i, n[0], n[1]))
	}
	return p
}

// timed has a class without places for each number: so many times.
func timed(counts ...int) api.Problem {
	var l [][2]int
	for _, n := range counts {
		l = append(l, [2]int{n, 0})
	}
	return seated(l...)
}

// plansThat is reckoned without bounds.
func plansThat(p api.Problem, most int) int {
	if err, _ := checkThat(p); err != api.OK || most < 1 {
		return 0
	}
	product := big.NewInt(1)
	for _, c := range p.Classes {
		product.Mul(product, big.NewInt(int64(len(c.Times)*max(len(c.Places), 1))))
	}
	if product.Cmp(big.NewInt(int64(most))) > 0 {
		return most
	}
	return int(product.Int64())
}

// mosts are about n, and over the int's whole range.
func mosts(n int) []int {
	return append(wild(), -1, 0, 1, 2, 3, n/2, n-1, n, n+1, 2*n, 999999, 1000000, 1000001)
}

func TestPlans(t *testing.T) {
	for _, x := range []struct {
		p    api.Problem
		want int
	}{
		{bare(), 1}, {sized(size{rooms: 3, persons: 2}), 1}, {sized(size{students: 4}), 1},
		{timed(1), 1}, {timed(2), 2}, {timed(16), 16}, {seated([2]int{1, 1}), 1}, {seated([2]int{3, 4}), 12}, {seated([2]int{16, 12}), 192},
		{timed(1, 1, 1), 1}, {timed(2, 3), 6}, {timed(3, 1, 5), 15}, {seated([2]int{2, 3}, [2]int{4, 0}, [2]int{1, 5}), 120},
		{timed(slices.Repeat(row(1), 40)...), 1}, {timed(slices.Repeat(row(2), 20)...), 1 << 20}, {timed(10, 10, 10, 10, 10, 10), 1000000},
		{seated([2]int{16, 12}, [2]int{16, 12}, [2]int{16, 12}, [2]int{16, 12}), 192 * 192 * 192 * 192},
	} {
		wantPlans(t, x.p, math.MaxInt, x.want)
		wantPlans(t, x.p, x.want+1, x.want)
		wantPlans(t, x.p, x.want, x.want)
		wantPlans(t, x.p, x.want-1, x.want-1)
		wantPlans(t, x.p, 1, 1)
		wantPlans(t, x.p, 0, 0)
		wantPlans(t, x.p, -1, 0)
		wantPlans(t, x.p, math.MinInt, 0)
		for _, most := range mosts(x.want) {
			wantPlans(t, x.p, most, plansThat(x.p, most))
		}
	}
}

// TestPlansAboveTheInt: products that would be small, 0 or below 0, if they were cut to the int.
func TestPlansAboveTheInt(t *testing.T) {
	for _, counts := range [][]int{
		slices.Repeat(row(2), 40), slices.Repeat(row(4), 40), slices.Repeat(row(16), 40), slices.Repeat(row(3), 39), slices.Repeat(row(3), 40), slices.Repeat(row(15), 40),
		slices.Repeat(row(4), 31), append(slices.Repeat(row(4), 31), 2), append(slices.Repeat(row(4), 31), 3), slices.Repeat(row(4), 32), append(slices.Repeat(row(4), 32), 3),
		append(slices.Repeat(row(7), 22), 2), append(slices.Repeat(row(7), 22), 3), append(slices.Repeat(row(11), 20), 1, 1), slices.Repeat(row(16), 16), append(slices.Repeat(row(16), 15), 4), append(slices.Repeat(row(16), 15), 7), append(slices.Repeat(row(16), 15), 8),
		slices.Repeat(row(13), 17), slices.Repeat(row(13), 18), append(row(3), slices.Repeat(row(16), 16)...), append(slices.Repeat(row(16), 16), 3),
	} {
		for _, p := range []api.Problem{timed(counts...), withPlaces(timed(counts...))} {
			for _, most := range append(mosts(1<<62), math.MaxInt/3, math.MaxInt/2, 192, 191) {
				wantPlans(t, p, most, plansThat(p, most))
			}
		}
	}
	wantPlans(t, timed(slices.Repeat(row(16), 40)...), math.MaxInt, math.MaxInt)
	wantPlans(t, timed(slices.Repeat(row(4), 31)...), math.MaxInt, 1<<62)
	wantPlans(t, timed(slices.Repeat(row(4), 32)...), math.MaxInt, math.MaxInt)
	wantPlans(t, timed(slices.Repeat(row(3), 39)...), math.MaxInt, 4052555153018976267)
}

// withPlaces has twelve places in each class.
func withPlaces(p api.Problem) api.Problem {
	return but(p, func(p *api.Problem) {
		for i := range p.Classes {
			p.Classes[i].Places = placesOf(12)
		}
	})
}

// TestPlansOfNone: of a problem that may not be there are none, whatever is wrong.
func TestPlansOfNone(t *testing.T) {
	for _, p := range mixed() {
		err, _ := checkThat(p)
		for _, most := range mosts(1000) {
			got := problem.Plans(p, most)
			if (got == 0) != (err != api.OK || most < 1) || got != plansThat(p, most) {
				t.Errorf("Plans with a most of %d are %d of a problem whose error is %d", most, got, err)
			}
		}
	}
	wantPlans(t, api.Problem{}, math.MaxInt, 0)
	wantPlans(t, but(timed(3), func(p *api.Problem) { p.Classes[0].Times = nil }), 10, 0)
	wantPlans(t, but(timed(3, 4), func(p *api.Problem) { p.Weigh.Clash = 1001 }), 10, 0)
}

func TestPlansByChance(t *testing.T) {
	chance := rand.New(rand.NewSource(6))
	for range 400 {
		var counts [][2]int
		for range chance.Intn(20) {
			counts = append(counts, [2]int{1 + chance.Intn(16), chance.Intn(13)})
		}
		p := seated(counts...)
		for _, most := range append(mosts(plansThat(p, math.MaxInt-2)), 1+chance.Intn(1<<40)) {
			wantPlans(t, p, most, plansThat(p, most))
		}
	}
}

// P17.3: FindRoom, FindPerson, FindClass, FindCourse

// finder is one of the calls that find, and the names of what it finds.
type finder struct {
	what  string
	find  func(p api.Problem, s string) int
	names func(p *api.Problem, names ...string)
}

// called has a thing for each name.
func called[T any](names []string, thing func(s string) T) []T {
	var out []T
	for _, s := range names {
		out = append(out, thing(s))
	}
	return out
}

func finds() []finder {
	return []finder{
		{"room", problem.FindRoom, func(p *api.Problem, names ...string) {
			p.Rooms = called(names, func(s string) api.Room { return api.Room{Name: s} })
		}},
		{"person", problem.FindPerson, func(p *api.Problem, names ...string) {
			p.Persons = called(names, func(s string) api.Person { return api.Person{Name: s} })
		}},
		{"class", problem.FindClass, func(p *api.Problem, names ...string) {
			p.Classes = called(names, func(s string) api.Class { return api.Class{Name: s} })
		}},
		{"course", problem.FindCourse, func(p *api.Problem, names ...string) {
			p.Courses = called(names, func(s string) api.Course { return api.Course{Name: s} })
		}},
	}
}

func wantFind(t *testing.T, x finder, p api.Problem, s string, want int) {
	t.Helper()
	if got := x.find(p, s); got != want {
		t.Errorf("of the name %q there is the %s %d, want %d", s, x.what, got, want)
	}
}

func TestFind(t *testing.T) {
	for i, p := range []api.Problem{good(), full(), wide()} {
		counts := []int{len(p.Rooms), len(p.Persons), len(p.Classes), len(p.Courses)}
		for j, x := range finds() {
			for n := range 60 {
				want := -1
				if n < counts[j] {
					want = n
				}
				wantFind(t, x, p, name(n), want)
			}
			for _, s := range []string{"", "p", "n", "n00", "N0", "n0 ", " n0", "n-1", "n0\x00", "0"} {
				wantFind(t, x, p, s, -1)
			}
			wantFind(t, x, p, name(counts[j]-1), counts[j]-1)
			if i == 0 && counts[j] == 0 {
				t.Fatal("there is none to be found")
			}
		}
	}
}

// TestFindByKind: the same name is found of each kind where it stands in that kind, and not of others.
func TestFindByKind(t *testing.T) {
	all := finds()
	for i, x := range all {
		p := bare()
		for j, y := range all {
			names := []string{"a", "b", "c", "d", "e"}
			names[j] = "x"
			y.names(&p, names...)
		}
		wantFind(t, x, p, "x", i)
		x.names(&p, "a", "b")
		wantFind(t, x, p, "x", -1)
		p.Students = []api.Student{{Name: "x"}}
		p.Name = "x"
		wantFind(t, x, p, "x", -1)
		for j, y := range all {
			if i != j {
				wantFind(t, y, p, "x", j)
			}
		}
	}
}

// TestFindTheFirst: of several of one name, next to each other and apart.
func TestFindTheFirst(t *testing.T) {
	for _, x := range finds() {
		p := bare()
		for _, y := range finds() {
			y.names(&p, "z", "z")
		}
		x.names(&p, "a", "b", "b", "c", "a", "", "c", "", "d")
		for s, want := range map[string]int{"a": 0, "b": 1, "c": 3, "": 5, "d": 8, "z": -1, "A": -1, "ab": -1} {
			wantFind(t, x, p, s, want)
		}
	}
}

// TestFindInAnyProblem: whether it may be or not.
func TestFindInAnyProblem(t *testing.T) {
	long := strings.Repeat("long", 30)
	for _, x := range finds() {
		wantFind(t, x, api.Problem{}, "", -1)
		wantFind(t, x, api.Problem{}, "a", -1)
		wantFind(t, x, bare(), "", -1)
		p := api.Problem{}
		x.names(&p, "a", long, "\xff\x00", "", long+"!")
		for i, s := range []string{"a", long, "\xff\x00", "", long + "!"} {
			wantFind(t, x, p, s, i)
		}
		wantFind(t, x, p, long[1:], -1)
		wantFind(t, x, p, "\xff", -1)
		x.names(&p, []string{}...)
		wantFind(t, x, p, "", -1)
	}
	for _, p := range mixed() {
		for _, x := range finds() {
			for _, s := range []string{"n0", "n1", "n5", "", strings.Repeat("n", 25)} {
				wantFind(t, x, p, s, findThat(p, x.what, s))
			}
		}
	}
}

// findThat is the first place of that name among those of one kind.
func findThat(p api.Problem, what, s string) int {
	names := map[string][]string{}
	for _, x := range p.Rooms {
		names["room"] = append(names["room"], x.Name)
	}
	for _, x := range p.Persons {
		names["person"] = append(names["person"], x.Name)
	}
	for _, x := range p.Classes {
		names["class"] = append(names["class"], x.Name)
	}
	for _, x := range p.Courses {
		names["course"] = append(names["course"], x.Name)
	}
	return slices.Index(names[what], s)
}

// P17.3: Share

// taught has a class for each row, that these persons teach.
func taught(l ...[]int) api.Problem {
	p := sized(size{persons: 9})
	for i, persons := range l {
		c := seats(i, 1, 0)
		c.Persons = persons
		p.Classes = append(p.Classes, c)
	}
	return p
}

func TestShare(t *testing.T) {
	p := taught(row(0, 1, 2, 3), row(1, 3), row(), row(2, 4, 8), row(0, 1, 2, 3), row(8), nil, row(0, 3, 5, 8))
	wantCheck(t, p, api.OK, 0)
	wantShare(t, p, 0, 1, 1, 3)
	wantShare(t, p, 0, 2)
	wantShare(t, p, 0, 3, 2)
	wantShare(t, p, 0, 4, 0, 1, 2, 3)
	wantShare(t, p, 0, 5)
	wantShare(t, p, 0, 6)
	wantShare(t, p, 0, 7, 0, 3)
	wantShare(t, p, 1, 3)
	wantShare(t, p, 3, 5, 8)
	wantShare(t, p, 3, 7, 8)
	wantShare(t, p, 2, 6)
	for c, l := range p.Classes {
		wantShare(t, p, c, c, l.Persons...)
	}
}

// TestShareOfNoClass: it is taught by nobody, also not by whom the other one is.
func TestShareOfNoClass(t *testing.T) {
	p := taught(row(0, 1), row(0, 1), row(0, 1))
	for _, n := range append(wild(), -1, 3, 4, 39, 40) {
		for c := range 3 {
			wantShare(t, p, c, n)
			wantShare(t, p, n, n)
			wantShare(t, bare(), c, n)
		}
		for _, m := range append(wild(), -1, 3) {
			wantShare(t, p, n, m)
		}
	}
	wantShare(t, p, 2, 0, 0, 1)
	wantShare(t, api.Problem{}, 0, 0)
	wantShare(t, bare(), 0, 0)
}

// TestShareInAnyOrder: of classes as they stand, whose persons neither rise nor stand there once; each is told once, and they rise.
func TestShareInAnyOrder(t *testing.T) {
	p := taught(row(5, 2, 8, 0), row(8, 0, 5), row(2, 2, 5, 5, 5), row(5, 2, 5), row(8, 8), row(7, 6, 5, 4, 3, 2, 1, 0), row(0, 1, 2, 3, 4, 5, 6, 7))
	wantShare(t, p, 0, 1, 0, 5, 8)
	wantShare(t, p, 0, 0, 0, 2, 5, 8)
	wantShare(t, p, 0, 2, 2, 5)
	wantShare(t, p, 2, 2, 2, 5)
	wantShare(t, p, 2, 3, 2, 5)
	wantShare(t, p, 1, 4, 8)
	wantShare(t, p, 4, 4, 8)
	wantShare(t, p, 5, 6, run(0, 8)...)
	wantShare(t, p, 5, 5, run(0, 8)...)
	wantShare(t, p, 3, 4)
}

// TestShareOfEach: each two rows of up to three of a few persons.
func TestShareOfEach(t *testing.T) {
	var all [][]int
	var each func(l []int)
	each = func(l []int) {
		all = append(all, l)
		if len(l) < 3 {
			for n := range 4 {
				each(append(slices.Clone(l), n))
			}
		}
	}
	each(nil)
	for _, a := range all {
		for _, b := range all {
			var want []int
			for n := range 4 {
				if slices.Contains(a, n) && slices.Contains(b, n) {
					want = append(want, n)
				}
			}
			wantShare(t, taught(a, b), 0, 1, want...)
		}
	}
}

// R1: long rows end, too

func TestOfVeryMany(t *testing.T) {
	many := 1 << 20
	p := bare()
	p.Rooms = make([]api.Room, many)
	for i := range p.Rooms {
		p.Rooms[i].Name = name(i)
	}
	p.Walk = make([][]int, many)
	wantCheck(t, p, api.ErrRoom, 24)
	wantFind(t, finds()[0], p, name(many-1), many-1)
	p = bare()
	p.Classes = []api.Class{{Persons: run(0, many)}, {Persons: run(many/2, many)}}
	wantCheck(t, p, api.ErrClass, 0)
	if got := problem.Share(p, 0, 1); !slices.Equal(got, run(many/2, many/2)) {
		t.Errorf("%d persons teach both classes", len(got))
	}
	wantSame(t, p, problem.Copy(p), true)
	p = bare()
	p.Students = []api.Student{{Name: "a", Courses: run(0, many)}, {Name: strings.Repeat("a", many)}}
	p.Courses = make([]api.Course, 1)
	wantCheck(t, p, api.ErrCourse, 0)
	p.Courses = nil
	wantCheck(t, p, api.ErrStudent, 0)
	wantRule(t, many, ofKind(api.Folk, run(0, many)...), false)
	p = bare()
	p.Rules = slices.Repeat([]api.Rule{{Kind: api.Folk, Classes: row(0, 1), Hard: true}}, many)
	wantCheck(t, p, api.ErrRule, 0)
	p.Classes = sized(size{classes: 2}).Classes
	wantCheck(t, p, api.ErrRule, 60)
}
