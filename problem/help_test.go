package problem_test

import (
	"fmt"
	"math"
	"math/bits"
	"reflect"
	"slices"
	"strings"
	"testing"

	"horarium/api"
	"horarium/problem"
)

// wild are numbers over the int's whole range, none of which may stand anywhere in a problem; those among them that are about 2^32 look well if they are cut short.
func wild() []int {
	return []int{math.MinInt, math.MinInt + 1, math.MinInt32, -1 << 32, -1<<32 + 1, -10000, -97, -3, -2, 10001, 1 << 16, math.MaxInt32, 1 << 32, 1<<32 + 1, 1<<62 + 1, math.MaxInt - 1, math.MaxInt}
}

func row(l ...int) []int { return l }

// run are n numbers, from first on.
func run(first, n int) []int {
	var out []int
	for i := range n {
		out = append(out, first+i)
	}
	return out
}

func at(weeks uint32, days uint8, start, length int) api.When {
	return api.When{Weeks: weeks, Days: days, Start: start, Len: length}
}

// week is the grid of the problems below.
func week() api.Grid { return api.Grid{Weeks: 3, Days: 5, Slots: 10} }

// someTime may be in week; of any 60 numbers next to each other no two have the same one.
func someTime(i int) api.When { return at(1<<(i%3), 1<<(i%5), i%4, 1+i%5) }

func name(i int) string { return fmt.Sprint("n", i) }

func roomOf(i int) api.Room {
	return api.Room{Name: name(i), Seats: 10 + i, Gear: uint16(3*i + 1), Shut: []api.When{someTime(i), someTime(i + 1)}}
}

func personOf(i int) api.Person {
	return api.Person{Name: name(i), Away: []api.When{someTime(i + 2), someTime(i + 3)}}
}

// classOf may be among so many rooms, persons and classes.
func classOf(i, rooms, persons, classes int) api.Class {
	c := api.Class{Name: name(i), Seats: 5 + i, Gear: uint16(i), Over: -1}
	for j := range 3 {
		c.Times = append(c.Times, api.Time{When: someTime(i + j), Cost: i + 2*j})
	}
	for j := range min(rooms, 2) {
		c.Places = append(c.Places, api.Place{Room: (i + j) % rooms, Cost: 3*i + j})
	}
	for j := range min(persons, 3) {
		c.Persons = append(c.Persons, (i+j)%persons)
	}
	slices.Sort(c.Persons)
	if i > 0 && i < classes {
		c.Over = i - 1
	}
	return c
}

// courseOf may be among so many classes, of which there is one at least.
func courseOf(i, classes int) api.Course {
	c := api.Course{Name: name(i), Ways: []api.Way{{Parts: [][]int{{i % classes}}}}}
	if classes > 3 {
		c.Ways = append(c.Ways, api.Way{Parts: [][]int{{0, 2}, {1, 3}}})
	}
	return c
}

func studentOf(i, courses int) api.Student {
	s := api.Student{Name: name(i)}
	for j := range min(courses, 1+i%3) {
		s.Courses = append(s.Courses, (i+j)%courses)
	}
	slices.Sort(s.Courses)
	return s
}

// ruleOf may be among so many classes, of which there are two at least.
func ruleOf(i, classes int) api.Rule {
	r := api.Rule{Kind: api.SameStart, Classes: row((i+1)%classes, i%classes), Cost: 1 + i}
	switch i % 3 {
	case 1:
		r.Kind, r.A, r.B = api.MostBlock, 4, 1
	case 2:
		r.Kind, r.A, r.Hard, r.Cost = api.Within, 5, true, 0
	}
	return r
}

// walkOf are walks between n rooms, no two of them the same but there and back.
func walkOf(n int) [][]int {
	var out [][]int
	for a := range n {
		line := make([]int, n)
		for b := range n {
			if a != b {
				line[b] = (min(a, b)*5 + max(a, b)*3) % 97
			}
		}
		out = append(out, line)
	}
	return out
}

// size tells how many of each kind a problem has.
type size struct{ rooms, persons, classes, courses, students, rules int }

// sized has so many of each kind, and may be, if these may be; things of two kinds have the same names.
func sized(n size) api.Problem {
	p := api.Problem{Name: "p", Grid: week(), Walk: walkOf(n.rooms), Weigh: api.Weigh{Time: 1, Place: 2, Rule: 3, Clash: 4}}
	for i := range n.rooms {
		p.Rooms = append(p.Rooms, roomOf(i))
	}
	for i := range n.persons {
		p.Persons = append(p.Persons, personOf(i))
	}
	for i := range n.classes {
		p.Classes = append(p.Classes, classOf(i, n.rooms, n.persons, n.classes))
	}
	for i := range n.courses {
		p.Courses = append(p.Courses, courseOf(i, n.classes))
	}
	for i := range n.students {
		p.Students = append(p.Students, studentOf(i, n.courses))
	}
	for i := range n.rules {
		p.Rules = append(p.Rules, ruleOf(i, n.classes))
	}
	return p
}

// good may be, and has several of each kind.
func good() api.Problem { return sized(size{5, 6, 7, 4, 5, 6}) }

// full may be, and has as many of each kind as may be.
func full() api.Problem { return sized(size{24, 24, 40, 16, 200, 60}) }

// bare is a Name and a grid.
func bare() api.Problem { return api.Problem{Name: "p", Grid: week()} }

// wide has more of each kind than may be.
func wide() api.Problem { return sized(size{30, 30, 50, 20, 220, 70}) }

// Problems gone through row by row, by means that know of no kind

// deep is v in new memory; each of its rows has so much room to spare, in which marks stand.
func deep(v reflect.Value, spare int) reflect.Value {
	out := reflect.New(v.Type()).Elem()
	switch v.Kind() {
	case reflect.Struct:
		for i := range v.NumField() {
			out.Field(i).Set(deep(v.Field(i), spare))
		}
	case reflect.Slice:
		if v.IsNil() && spare == 0 {
			return out
		}
		all := reflect.MakeSlice(v.Type(), v.Len()+spare, v.Len()+spare)
		for i := range v.Len() {
			all.Index(i).Set(deep(v.Index(i), spare))
		}
		for i := range spare {
			leaves(all.Index(v.Len()+i), "", func(_ string, x reflect.Value) { change(x, 9) })
		}
		out.Set(all.Slice(0, v.Len()))
	default:
		out.Set(v)
	}
	return out
}

// copyOf is p in new memory, without room to spare.
func copyOf(p api.Problem) api.Problem {
	return deep(reflect.ValueOf(p), 0).Interface().(api.Problem)
}

// roomy is p with room to spare behind each row's end, in which others stand.
func roomy(p api.Problem) api.Problem {
	return deep(reflect.ValueOf(p), 2).Interface().(api.Problem)
}

// but is p in new memory, changed.
func but(p api.Problem, change func(*api.Problem)) api.Problem {
	out := copyOf(p)
	change(&out)
	return out
}

// leaves tells each number, text and bool of v, which can be set, and where it stands.
func leaves(v reflect.Value, path string, look func(path string, x reflect.Value)) {
	switch v.Kind() {
	case reflect.Struct:
		for i := range v.NumField() {
			leaves(v.Field(i), path+"."+v.Type().Field(i).Name, look)
		}
	case reflect.Slice:
		for i := range v.Len() {
			leaves(v.Index(i), fmt.Sprintf("%s[%d]", path, i), look)
		}
	default:
		look(path, v)
	}
}

// rows tells each row of v, a row's own rows behind it, and where it stands.
func rows(v reflect.Value, path string, look func(path string, x reflect.Value)) {
	switch v.Kind() {
	case reflect.Struct:
		for i := range v.NumField() {
			rows(v.Field(i), path+"."+v.Type().Field(i).Name, look)
		}
	case reflect.Slice:
		look(path, v)
		for i := range v.Len() {
			rows(v.Index(i), fmt.Sprintf("%s[%d]", path, i), look)
		}
	}
}

// change makes another value of a number, a text or a bool.
func change(x reflect.Value, by int) {
	switch x.Kind() {
	case reflect.Int:
		x.SetInt(x.Int() + int64(by))
	case reflect.Uint8, reflect.Uint16, reflect.Uint32:
		x.SetUint(x.Uint() ^ uint64(by))
	case reflect.Bool:
		x.SetBool(!x.Bool())
	case reflect.String:
		x.SetString(x.String() + strings.Repeat("!", by))
	default:
		panic("a kind that api has not: " + x.Kind().String())
	}
}

// inside is p as its own value, that can be set.
func inside(p *api.Problem) reflect.Value { return reflect.ValueOf(p).Elem() }

// plain is p without rows that are empty and not nil.
func plain(p api.Problem) api.Problem {
	out := copyOf(p)
	rows(inside(&out), "", func(_ string, x reflect.Value) {
		if x.Len() == 0 {
			x.SetZero()
		}
	})
	return out
}

// whole is p with all that stands in its rows' spare room.
func whole(p api.Problem) api.Problem { return grown(reflect.ValueOf(p)).Interface().(api.Problem) }

func grown(v reflect.Value) reflect.Value {
	out := reflect.New(v.Type()).Elem()
	switch v.Kind() {
	case reflect.Struct:
		for i := range v.NumField() {
			out.Field(i).Set(grown(v.Field(i)))
		}
	case reflect.Slice:
		out.Set(reflect.MakeSlice(v.Type(), v.Cap(), v.Cap()))
		for i := range v.Cap() {
			out.Index(i).Set(grown(v.Slice(0, v.Cap()).Index(i)))
		}
	default:
		out.Set(v)
	}
	return out
}

func sameProblem(a, b api.Problem) bool { return reflect.DeepEqual(plain(a), plain(b)) }

// The chapter's words once more, by means of their own

func isIn(n, least, most int) bool { return least <= n && n <= most }

func isName(s string) bool { return s != "" && len(s) < 25 }

func isGrid(g api.Grid) bool {
	return isIn(g.Weeks, 1, 20) && isIn(g.Days, 1, 7) && isIn(g.Slots, 1, 96)
}

func isTime(g api.Grid, w api.When) bool {
	return isGrid(g) && w.Weeks > 0 && w.Days > 0 && bits.Len32(w.Weeks) <= g.Weeks && bits.Len8(w.Days) <= g.Days &&
		isIn(w.Start, 0, 96) && isIn(w.Len, 1, 96) && w.Start+w.Len <= g.Slots
}

func areTimes(g api.Grid, l []api.When) bool {
	return !slices.ContainsFunc(l, func(w api.When) bool { return !isTime(g, w) })
}

// isRising tells whether l are at most so many numbers, rising, from 0 below so many.
func isRising(l []int, most, below int) bool {
	for i, n := range l {
		if n < 0 || n >= below || i > 0 && l[i-1] >= n {
			return false
		}
	}
	return len(l) <= most
}

// areUnlike tells whether no two of l are the same.
func areUnlike[T comparable](l []T) bool {
	met := map[T]bool{}
	for _, x := range l {
		met[x] = true
	}
	return len(met) == len(l)
}

func isRoom(p api.Problem, r api.Room) bool {
	return isName(r.Name) && isIn(r.Seats, 0, 10000) && len(r.Shut) <= 16 && areTimes(p.Grid, r.Shut)
}

func isPerson(p api.Problem, x api.Person) bool {
	return isName(x.Name) && len(x.Away) <= 16 && areTimes(p.Grid, x.Away)
}

func isClass(p api.Problem, c api.Class) bool {
	var whens []api.When
	var rooms []int
	for _, x := range c.Times {
		if !isIn(x.Cost, 0, 1000) {
			return false
		}
		whens = append(whens, x.When)
	}
	for _, x := range c.Places {
		if !isIn(x.Cost, 0, 1000) || !isIn(x.Room, 0, len(p.Rooms)-1) {
			return false
		}
		rooms = append(rooms, x.Room)
	}
	return isName(c.Name) && isIn(c.Seats, 0, 10000) && isRising(c.Persons, 4, len(p.Persons)) && isIn(c.Over, -1, len(p.Classes)-1) &&
		isIn(len(whens), 1, 16) && areTimes(p.Grid, whens) && areUnlike(whens) && len(rooms) <= 12 && areUnlike(rooms)
}

func isCourse(p api.Problem, c api.Course) bool {
	for _, w := range c.Ways {
		for _, part := range w.Parts {
			if len(part) == 0 || !isRising(part, 8, len(p.Classes)) {
				return false
			}
		}
		if !isIn(len(w.Parts), 1, 4) || !areUnlike(slices.Concat(w.Parts...)) {
			return false
		}
	}
	return isName(c.Name) && isIn(len(c.Ways), 1, 4)
}

func isStudent(p api.Problem, s api.Student) bool {
	return isName(s.Name) && isRising(s.Courses, 6, len(p.Courses))
}

// numbersOf: the least and the greatest A, and B, of a kind of rules, if it is one.
func numbersOf(k api.RuleKind) (out [4]int, known bool) {
	switch k {
	case api.MostDays:
		return [4]int{1, 7, 0, 0}, true
	case api.MostLoad, api.Within:
		return [4]int{1, 96, 0, 0}, true
	case api.MostBreaks:
		return [4]int{0, 48, 0, 96}, true
	case api.MostBlock:
		return [4]int{1, 96, 0, 96}, true
	}
	return out, isIn(int(k), 1, 14)
}

func isRule(classes int, r api.Rule) bool {
	n, known := numbersOf(r.Kind)
	cost := isIn(r.Cost, 1, 1000) && !r.Hard || r.Cost == 0 && r.Hard
	sorted := slices.Sorted(slices.Values(r.Classes))
	return known && isIn(r.A, n[0], n[1]) && isIn(r.B, n[2], n[3]) && cost && len(sorted) > 1 && isRising(sorted, 12, classes)
}

func isWeigh(w api.Weigh) bool {
	return isIn(w.Time, 0, 1000) && isIn(w.Place, 0, 1000) && isIn(w.Rule, 0, 1000) && isIn(w.Clash, 0, 1000)
}

func isWalk(n int, walk [][]int) bool {
	if len(walk) != n || n > 24 {
		return false
	}
	for _, line := range walk {
		if len(line) != n {
			return false
		}
	}
	for a := range n {
		for b := range n {
			if slots := walk[a][b]; slots != walk[b][a] || !isIn(slots, 0, 96) || a == b && slots != 0 {
				return false
			}
		}
	}
	return true
}

// firstWrong: the first of l, which are at most so many, that is wrong, or has a name that was there; -1, if there is none.
func firstWrong[T any](l []T, most int, named func(T) string, is func(T) bool) int {
	met := map[string]bool{}
	for i, x := range l {
		if i >= most || met[named(x)] || !is(x) {
			return i
		}
		met[named(x)] = true
	}
	return -1
}

// checkThat looks for the wrong things kind by kind, and tells the first one.
func checkThat(p api.Problem) (api.Errno, int) {
	type told struct {
		err api.Errno
		n   int
	}
	yes := func(wrong bool, n int) int {
		if wrong {
			return n
		}
		return -1
	}
	rules := 0
	for rules < len(p.Rules) && rules < 60 && isRule(len(p.Classes), p.Rules[rules]) {
		rules++
	}
	for _, x := range []told{
		{api.ErrProblem, yes(!isName(p.Name), 0)},
		{api.ErrGrid, yes(!isGrid(p.Grid), 0)},
		{api.ErrRoom, firstWrong(p.Rooms, 24, func(r api.Room) string { return r.Name }, func(r api.Room) bool { return isRoom(p, r) })},
		{api.ErrRoom, yes(!isWalk(len(p.Rooms), p.Walk), len(p.Rooms))},
		{api.ErrPerson, firstWrong(p.Persons, 24, func(x api.Person) string { return x.Name }, func(x api.Person) bool { return isPerson(p, x) })},
		{api.ErrClass, firstWrong(p.Classes, 40, func(c api.Class) string { return c.Name }, func(c api.Class) bool { return isClass(p, c) })},
		{api.ErrCourse, firstWrong(p.Courses, 16, func(c api.Course) string { return c.Name }, func(c api.Course) bool { return isCourse(p, c) })},
		{api.ErrStudent, firstWrong(p.Students, 200, func(s api.Student) string { return s.Name }, func(s api.Student) bool { return isStudent(p, s) })},
		{api.ErrRule, yes(rules < len(p.Rules), rules)},
		{api.ErrWeigh, yes(!isWeigh(p.Weigh), 0)},
	} {
		if x.n >= 0 {
			return x.err, x.n
		}
	}
	return api.OK, 0
}

// What is wanted

// wantCheck: Right goes with it.
func wantCheck(t *testing.T, p api.Problem, err api.Errno, n int) {
	t.Helper()
	if e, m := problem.Check(p); e != err || m != n {
		t.Errorf("Check is %d, %d, want %d, %d", e, m, err, n)
	}
	if problem.Right(p) != (err == api.OK) {
		t.Errorf("Right is %v, but Check is %d, %d", problem.Right(p), err, n)
	}
}

func wantThat(t *testing.T, p api.Problem) {
	t.Helper()
	err, n := checkThat(p)
	wantCheck(t, p, err, n)
}

func wantRule(t *testing.T, classes int, r api.Rule, want bool) {
	t.Helper()
	if got := problem.Rule(classes, r); got != want {
		t.Errorf("Rule(%d, %v) = %v", classes, r, got)
	}
}

// wantSame: both ways round.
func wantSame(t *testing.T, a, b api.Problem, want bool) {
	t.Helper()
	if problem.Same(a, b) != want || problem.Same(b, a) != want {
		t.Errorf("Same is %v, and the other way round %v, want %v", problem.Same(a, b), problem.Same(b, a), want)
	}
}

func wantPlans(t *testing.T, p api.Problem, most, want int) {
	t.Helper()
	if got := problem.Plans(p, most); got != want {
		t.Errorf("Plans with a most of %d are %d, want %d", most, got, want)
	}
}

func wantShare(t *testing.T, p api.Problem, a, b int, want ...int) {
	t.Helper()
	for _, got := range [][]int{problem.Share(p, a, b), problem.Share(p, b, a)} {
		if !slices.Equal(got, want) {
			t.Errorf("Share of %d and %d is %v, want %v", a, b, got, want)
		}
	}
}

// TestOwnMeans: the problems and the means above are what they are said to be.
func TestOwnMeans(t *testing.T) {
	for _, p := range []api.Problem{good(), full(), wide(), bare()} {
		if !sameProblem(copyOf(p), p) || !sameProblem(roomy(p), p) || sameProblem(whole(roomy(p)), p) {
			t.Fatal("copyOf, roomy or whole")
		}
	}
	if !areUnlike([]api.When{someTime(0), someTime(1), someTime(2)}) || !areTimes(week(), []api.When{someTime(0), someTime(59), someTime(17)}) {
		t.Fatal("someTime")
	}
	places := 0
	p := good()
	leaves(inside(&p), "", func(string, reflect.Value) { places++ })
	if places < 300 {
		t.Fatal("leaves:", places)
	}
}
