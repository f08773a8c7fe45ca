package paper_test

import (
	"fmt"
	"math"
	"math/big"
	"math/bits"
	"reflect"
	"regexp"
	"slices"
	"strconv"
	"strings"
	"testing"

	"horarium/api"
	"horarium/paper"
	"horarium/problem"
)

// spring has each line of the table, and several behind one another.
const spring = `problem spring 3 5 10
weigh 1 2 3 4
room hall 120 5
shut 1-2 mw 0+2
shut 3 f 8+2
room cellar 0 0
room lab%20two 10000 65535
shut 1 m 0+10
walk 0 1 3
walk 1 2 96
person ada
away 1,3 t 0+1
away 1-3 mtwhf 9+1
person bob
class algebra 100 4 -1 0
time 0 1-3 m 0+2
time 1000 1-3 t 0+2
place 0 0
place 7 2
class lab 20 0 0 0 1
time 5 2 w 2+3
class sport 0 0 -1
time 0 1 m 0+1
course maths
way
part 0
part 1
way
part 0 2
course sports
way
part 2
student kim 0 1
student lee
student max 1
rule meet hard 0 0 0 1
rule mostblock 10 4 0 1 0 2
`

// springs is what spring tells.
func springs() api.Problem {
	return api.Problem{
		Name: "spring",
		Grid: api.Grid{Weeks: 3, Days: 5, Slots: 10},
		Rooms: []api.Room{
			{Name: "hall", Seats: 120, Gear: 5, Shut: []api.When{at(3, 5, 0, 2), at(4, 16, 8, 2)}},
			{Name: "cellar"},
			{Name: "lab two", Seats: 10000, Gear: 65535, Shut: []api.When{at(1, 1, 0, 10)}},
		},
		Walk:    [][]int{{0, 3, 0}, {3, 0, 96}, {0, 96, 0}},
		Persons: []api.Person{{Name: "ada", Away: []api.When{at(5, 2, 0, 1), at(7, 31, 9, 1)}}, {Name: "bob"}},
		Classes: []api.Class{
			{
				Name: "algebra", Seats: 100, Gear: 4, Over: -1, Persons: row(0),
				Times:  []api.Time{{When: at(7, 1, 0, 2)}, {When: at(7, 2, 0, 2), Cost: 1000}},
				Places: []api.Place{{Room: 0}, {Room: 2, Cost: 7}},
			},
			{Name: "lab", Seats: 20, Persons: row(0, 1), Times: []api.Time{{When: at(2, 4, 2, 3), Cost: 5}}},
			{Name: "sport", Over: -1, Times: []api.Time{{When: at(1, 1, 0, 1)}}},
		},
		Courses: []api.Course{
			{Name: "maths", Ways: []api.Way{{Parts: [][]int{{0}, {1}}}, {Parts: [][]int{{0, 2}}}}},
			{Name: "sports", Ways: []api.Way{{Parts: [][]int{{2}}}}},
		},
		Students: []api.Student{{Name: "kim", Courses: row(0, 1)}, {Name: "lee"}, {Name: "max", Courses: row(1)}},
		Rules: []api.Rule{
			{Kind: api.Meet, Classes: row(0, 1), Hard: true},
			{Kind: api.MostBlock, Classes: row(1, 0, 2), A: 4, Cost: 10},
		},
		Weigh: api.Weigh{Time: 1, Place: 2, Rule: 3, Clash: 4},
	}
}

// least is the least problem of the chapter's example, leasts what it tells.
const least = "problem p 1 5 10\nweigh 1 1 1 1\n"

func leasts() api.Problem {
	return api.Problem{Name: "p", Grid: api.Grid{Weeks: 1, Days: 5, Slots: 10}, Weigh: api.Weigh{Time: 1, Place: 1, Rule: 1, Clash: 1}}
}

func row(l ...int) []int { return l }

func at(weeks uint32, days uint8, start, length int) api.When {
	return api.When{Weeks: weeks, Days: days, Start: start, Len: length}
}

// text is of these lines.
func text(lines ...string) string { return strings.Join(lines, "\n") + "\n" }

// linesOf are those of a text that ends with a line feed.
func linesOf(text string) []string {
	return strings.Split(strings.TrimSuffix(text, "\n"), "\n")
}

// with is the text with others in place of the lines from from on to the one ahead of to.
func with(s string, from, to int, lines ...string) string {
	return text(slices.Replace(linesOf(s), from, to, lines...)...)
}

// size tells how many of each kind a problem has.
type size struct{ rooms, persons, classes, courses, students, rules int }

// someTime may be in the grid of sized; of any 60 numbers next to each other no two have the same one.
func someTime(i int) api.When { return at(1<<(i%3)|1<<(i%2), 1<<(i%5), i%4, 1+i%5) }

func someTimes(i, n int) []api.When {
	var l []api.When
	for j := range n {
		l = append(l, someTime(i+j))
	}
	return l
}

// some are n numbers below so many, rising, each once.
func some(i, n, below int) []int {
	var l []int
	for j := range min(n, below) {
		l = append(l, (i+j)%below)
	}
	slices.Sort(l)
	return l
}

func named(kind string, i int) string { return fmt.Sprint(kind, " ", i) }

// sized has so many of each kind, each with as many rows as most (or as there may be), and may be, if these may be.
func sized(n size, most int) api.Problem {
	p := api.Problem{Name: "p q", Grid: api.Grid{Weeks: 3, Days: 5, Slots: 10}, Weigh: api.Weigh{Time: 0, Place: 2, Rule: 1000, Clash: 4}}
	for i := range n.rooms {
		p.Rooms = append(p.Rooms, api.Room{Name: named("room", i), Seats: 417 * i, Gear: uint16(i * 2850), Shut: someTimes(i, min(most, 16))})
		p.Walk = append(p.Walk, make([]int, n.rooms))
		for j := range i {
			p.Walk[i][j] = max(0, (i*5+j*3)%98-1)
			p.Walk[j][i] = p.Walk[i][j]
		}
	}
	for i := range n.persons {
		p.Persons = append(p.Persons, api.Person{Name: named("person", i), Away: someTimes(i, min(most, 16))})
	}
	for i := range n.classes {
		p.Classes = append(p.Classes, someClass(i, n, most))
	}
	for i := range n.courses {
		p.Courses = append(p.Courses, someCourse(i, n.classes, most))
	}
	for i := range n.students {
		p.Students = append(p.Students, api.Student{Name: named("student", i), Courses: some(i, min(most, 6), n.courses)})
	}
	for i := range n.rules {
		p.Rules = append(p.Rules, someRule(i, n.classes, most))
	}
	return p
}

func someClass(i int, n size, most int) api.Class {
	c := api.Class{Name: named("class", i), Seats: 256 * i, Gear: uint16(65535 - i), Over: i - 1, Persons: some(i, min(most, 4), n.persons)}
	for j, w := range someTimes(i, max(1, min(most, 16))) {
		c.Times = append(c.Times, api.Time{When: w, Cost: 66 * j})
	}
	for j, room := range some(i, min(most, 12), n.rooms) {
		c.Places = append(c.Places, api.Place{Room: room, Cost: i + j})
	}
	return c
}

func someCourse(i, classes, most int) api.Course {
	c := api.Course{Name: named("course", i)}
	for range max(1, min(most, 4)) {
		var w api.Way
		parts := max(1, min(most, 4, classes))
		for k := range parts {
			first, end := k*classes/parts, (k+1)*classes/parts
			var part []int
			for j := first; j < min(end, first+max(1, min(most, 8))); j++ {
				part = append(part, j)
			}
			w.Parts = append(w.Parts, part)
		}
		c.Ways = append(c.Ways, w)
	}
	return c
}

func someRule(i, classes, most int) api.Rule {
	l := kinds()
	r := api.Rule{Kind: l[i%len(l)], Classes: some(i, max(2, min(most, 12)), classes), Hard: i%3 == 0}
	slices.Reverse(r.Classes)
	if !r.Hard {
		r.Cost = 1 + i*16
	}
	n := numbersOf(r.Kind)
	r.A, r.B = n[1], n[3]
	return r
}

// problems may be; they have few and many of each kind, with few and many rows.
func problems() []api.Problem {
	all := size{24, 24, 40, 16, 200, 60}
	out := []api.Problem{leasts(), springs(), sized(all, 0), sized(all, 1), sized(all, 2), sized(all, 99)}
	for _, n := range []size{
		{rooms: 1}, {rooms: 2}, {rooms: 24}, {persons: 1}, {persons: 24}, {classes: 1}, {classes: 40}, {classes: 1, courses: 1},
		{classes: 1, courses: 16}, {students: 1}, {students: 200}, {classes: 2, rules: 1}, {classes: 2, rules: 18}, {classes: 12, rules: 60},
		{1, 1, 2, 1, 1, 1}, {3, 3, 4, 3, 3, 36}, {rooms: 5, students: 3}, {persons: 5, students: 3}, {rooms: 3, classes: 3}, {persons: 3, classes: 3, students: 2},
	} {
		for _, most := range []int{0, 1, 3, 99} {
			out = append(out, sized(n, most))
		}
	}
	return out
}

// kinds are all kinds of rules.
func kinds() []api.RuleKind {
	var l []api.RuleKind
	for k := api.SameStart; k <= api.Folk; k++ {
		l = append(l, k)
	}
	return append(l, api.MostDays, api.MostLoad, api.MostBreaks, api.MostBlock)
}

// numbersOf: the least and the greatest A, and B, of a kind of rules.
func numbersOf(k api.RuleKind) [4]int {
	switch k {
	case api.MostDays:
		return [4]int{1, 7, 0, 0}
	case api.MostLoad, api.Within:
		return [4]int{1, 96, 0, 0}
	case api.MostBreaks:
		return [4]int{0, 48, 0, 96}
	case api.MostBlock:
		return [4]int{1, 96, 0, 96}
	}
	return [4]int{}
}

// Problems gone through row by row, by means that know of no kind

// deep is v in new memory; each of its rows has so much room to spare, in which marks stand.
func deep(v reflect.Value, spare int) reflect.Value {
	out := reflect.New(v.Type()).Elem()
	switch v.Kind() {
	case reflect.Struct:
		for i := range v.NumField() {
			out.Field(i).Set(deep(v.Field(i), spare))
		}
	case reflect.Slice:
		all := reflect.MakeSlice(v.Type(), v.Len()+spare, v.Len()+spare)
		for i := range v.Len() {
			all.Index(i).Set(deep(v.Index(i), spare))
		}
		for i := range spare {
			leaves(all.Index(v.Len()+i), func(x reflect.Value) { change(x) })
		}
		out.Set(all.Slice(0, v.Len()))
	default:
		out.Set(v)
	}
	return out
}

// copyOf is p in new memory, with so much room to spare behind each row's end.
func copyOf(p api.Problem, spare int) api.Problem {
	return deep(reflect.ValueOf(p), spare).Interface().(api.Problem)
}

// but is p in new memory, changed.
func but(p api.Problem, change func(*api.Problem)) api.Problem {
	out := copyOf(p, 0)
	change(&out)
	return out
}

// leaves tells each number, text and bool of v.
func leaves(v reflect.Value, look func(x reflect.Value)) {
	switch v.Kind() {
	case reflect.Struct:
		for i := range v.NumField() {
			leaves(v.Field(i), look)
		}
	case reflect.Slice:
		for i := range v.Len() {
			leaves(v.Index(i), look)
		}
	default:
		look(v)
	}
}

// rows tells each row of v, a row's own rows ahead of it.
func rows(v reflect.Value, look func(x reflect.Value)) {
	switch v.Kind() {
	case reflect.Struct:
		for i := range v.NumField() {
			rows(v.Field(i), look)
		}
	case reflect.Slice:
		for i := range v.Len() {
			rows(v.Index(i), look)
		}
		look(v)
	}
}

// change makes another value of a number, a text or a bool.
func change(x reflect.Value) {
	switch x.Kind() {
	case reflect.Int:
		x.SetInt(x.Int() + 1)
	case reflect.Uint8, reflect.Uint16, reflect.Uint32:
		x.SetUint(x.Uint() ^ 1)
	case reflect.Bool:
		x.SetBool(!x.Bool())
	case reflect.String:
		x.SetString(x.String() + "!")
	default:
		panic("a kind that api has not: " + x.Kind().String())
	}
}

// inside is p as its own value, that can be set.
func inside(p *api.Problem) reflect.Value { return reflect.ValueOf(p).Elem() }

// whole is v with all that stands in its rows' spare room.
func whole(v reflect.Value) reflect.Value {
	out := reflect.New(v.Type()).Elem()
	switch v.Kind() {
	case reflect.Struct:
		for i := range v.NumField() {
			out.Field(i).Set(whole(v.Field(i)))
		}
	case reflect.Slice:
		out.Set(reflect.MakeSlice(v.Type(), v.Cap(), v.Cap()))
		for i := range v.Cap() {
			out.Index(i).Set(whole(v.Slice(0, v.Cap()).Index(i)))
		}
	default:
		out.Set(v)
	}
	return out
}

// same tells whether a and b are the same, rows that are nil and that are empty taken as one.
func same(a, b api.Problem) bool {
	return reflect.DeepEqual(copyOf(a, 0), copyOf(b, 0))
}

// The chapter's words once more, by means of their own

const selves = "abcdefghijklmnopqrstuvwxyzABCDEFGHIJKLMNOPQRSTUVWXYZ0123456789._:/+-,="

// wordOf is the word of a text.
func wordOf(s string) string {
	if s == "" {
		return "%"
	}
	out := ""
	for i := range len(s) {
		if strings.IndexByte(selves, s[i]) >= 0 {
			out += s[i : i+1]
		} else {
			out += fmt.Sprintf("%%%02x", s[i])
		}
	}
	return out
}

// unword is the text of a word.
func unword(w string) string {
	if w == "%" {
		return ""
	}
	return regexp.MustCompile("%..").ReplaceAllStringFunc(w, func(x string) string {
		n, _ := strconv.ParseUint(x[1:], 16, 8)
		return string([]byte{byte(n)})
	})
}

// weeksOf tells the weeks one by one, each with how long its run is.
func weeksOf(weeks uint32) string {
	var runs []string
	for first := 0; first < 20; first++ {
		n := 0
		for weeks>>(first+n)&1 == 1 {
			n++
		}
		switch n {
		case 0:
			continue
		case 1:
			runs = append(runs, fmt.Sprint(first+1))
		default:
			runs = append(runs, fmt.Sprintf("%d-%d", first+1, first+n))
		}
		first += n
	}
	return strings.Join(runs, ",")
}

func whenOf(w api.When) string {
	days := ""
	for i, letter := range []string{"m", "t", "w", "h", "f", "s", "u"} {
		days += strings.Repeat(letter, int(w.Days>>i&1))
	}
	return fmt.Sprintf("%s %s %d+%d", weeksOf(w.Weeks), days, w.Start, w.Len)
}

func kindNames() []string {
	return strings.Fields("samestart sametime othertime samedays otherdays sameweeks otherweeks meet apart sameroom otherroom before within folk mostdays mostload mostbreaks mostblock")
}

func ints(l []int) string {
	out := ""
	for _, n := range l {
		out += fmt.Sprint(" ", n)
	}
	return out
}

// textThat are the lines of a problem.
func textThat(p api.Problem) string {
	out := ""
	put := func(form string, l ...any) { out += fmt.Sprintf(form+"\n", l...) }
	put("problem %s %d %d %d", wordOf(p.Name), p.Grid.Weeks, p.Grid.Days, p.Grid.Slots)
	put("weigh %d %d %d %d", p.Weigh.Time, p.Weigh.Place, p.Weigh.Rule, p.Weigh.Clash)
	for _, r := range p.Rooms {
		put("room %s %d %d", wordOf(r.Name), r.Seats, r.Gear)
		for _, w := range r.Shut {
			put("shut %s", whenOf(w))
		}
	}
	for i := range len(p.Rooms) * len(p.Rooms) {
		if a, b := i/len(p.Rooms), i%len(p.Rooms); a < b && p.Walk[a][b] != 0 {
			put("walk %d %d %d", a, b, p.Walk[a][b])
		}
	}
	for _, x := range p.Persons {
		put("person %s", wordOf(x.Name))
		for _, w := range x.Away {
			put("away %s", whenOf(w))
		}
	}
	for _, c := range p.Classes {
		put("class %s %d %d %d%s", wordOf(c.Name), c.Seats, c.Gear, c.Over, ints(c.Persons))
		for _, x := range c.Times {
			put("time %d %s", x.Cost, whenOf(x.When))
		}
		for _, x := range c.Places {
			put("place %d %d", x.Cost, x.Room)
		}
	}
	for _, c := range p.Courses {
		put("course %s", wordOf(c.Name))
		for _, w := range c.Ways {
			put("way")
			for _, part := range w.Parts {
				put("part%s", ints(part))
			}
		}
	}
	for _, s := range p.Students {
		put("student %s%s", wordOf(s.Name), ints(s.Courses))
	}
	for _, r := range p.Rules {
		cost := fmt.Sprint(r.Cost)
		if r.Hard {
			cost = "hard"
		}
		put("rule %s %s %d %d%s", kindNames()[slices.Index(kinds(), r.Kind)], cost, r.A, r.B, ints(r.Classes))
	}
	return out
}

// forms are how the lines look, by their first words; n stands for a number, s for a name, w for a When, k for a kind's name.
var forms = map[string]string{
	"problem": "s n n n", "weigh": "n n n n", "room": "s n n", "shut": "w", "walk": "n n n", "person": "s", "away": "w",
	"class": "s n n n n*", "time": "n w", "place": "n n", "course": "s", "way": "", "part": "n*", "student": "s n*", "rule": "k h n n n*",
}

// letterOf is a letter for each first word, of which text is made that orders looks at.
var letterOf = map[string]string{
	"problem": "P", "weigh": "W", "room": "R", "shut": "S", "walk": "K", "person": "E", "away": "A", "class": "C", "time": "T", "place": "L",
	"course": "O", "way": "Y", "part": "X", "student": "D", "rule": "U",
}

var orders = regexp.MustCompile("^(|P|PW(RS*)*K*(EA*)*(CT*L*)*(O(YX*)*)*D*U*)$")

// tightForms are looked for in a grid that may be; looseForms in one that may not be, where each three words stand for a When.
var tightForms, looseForms = lookOf(aWhen()), lookOf(aText() + aText() + aText())

const aNumber = "(0|-?[1-9][0-9]*)"

// aText looks for a blank and a word.
func aText() string {
	var codes []string
	for b := range 256 {
		if strings.IndexByte(selves, byte(b)) < 0 {
			codes = append(codes, fmt.Sprintf("%%%02x", b))
		}
	}
	return " (%|([a-zA-Z0-9._:/+,=-]|" + strings.Join(codes, "|") + ")+)"
}

// aWhen looks for a blank and the three words of a When, whose weeks and days may stand in any order.
func aWhen() string {
	const run = "(0|[1-9][0-9]?)(-[1-9][0-9]?)?"
	return " " + run + "(," + run + ")* ([mtwhfsu]+) (0|[1-9][0-9]*)[+](0|[1-9][0-9]*)"
}

// lookOf makes of each of forms the one that is looked for, in which a When looks so.
func lookOf(when string) map[string]*regexp.Regexp {
	parts := map[string]string{
		" s":  aText(),
		" n":  " " + aNumber,
		" n*": "( " + aNumber + ")*",
		" w":  when,
		" k":  " (" + strings.Join(kindNames(), "|") + ")",
		" h":  " (hard|" + aNumber + ")",
	}
	out := map[string]*regexp.Regexp{}
	for first, form := range forms {
		look := "^" + first
		for _, x := range strings.Fields(form) {
			look += parts[" "+x]
		}
		out[first] = regexp.MustCompile(look + "$")
	}
	return out
}

// isForm tells whether a line is of the form of those with its first word, in a grid that may be, or in one that may not.
func isForm(line string, gridMay bool) bool {
	l := strings.Split(line, " ")
	if !gridMay {
		look := looseForms[l[0]]
		return look != nil && look.MatchString(line)
	}
	look := tightForms[l[0]]
	if look == nil || !look.MatchString(line) {
		return false
	}
	if at := strings.Index(forms[l[0]], "w"); at >= 0 {
		return isWeeks(l[len(l)-3]) && isDays(l[len(l)-2])
	}
	return true
}

// mayBe tells whether a grid may be.
func mayBe(g api.Grid) bool {
	return g.Weeks >= 1 && g.Weeks <= 20 && g.Days >= 1 && g.Days <= 7 && g.Slots >= 1 && g.Slots <= 96
}

// isWeeks tells whether the runs rise, no two of them touching.
func isWeeks(s string) bool {
	ahead := -2
	for run := range strings.SplitSeq(s, ",") {
		first, last := ends(run)
		if first < ahead+2 || strings.Contains(run, "-") && first >= last {
			return false
		}
		ahead = last
	}
	return true
}

func ends(run string) (int, int) {
	a, b, several := strings.Cut(run, "-")
	first, _ := strconv.Atoi(a)
	if !several {
		return first, first
	}
	last, _ := strconv.Atoi(b)
	return first, last
}

func isDays(s string) bool {
	for i := range len(s) - 1 {
		if strings.IndexByte("mtwhfsu", s[i]) >= strings.IndexByte("mtwhfsu", s[i+1]) {
			return false
		}
	}
	return true
}

// reading has what is read, and whether all was in its range.
type reading struct {
	p     api.Problem
	walks [][]int
	bad   bool
}

func (r *reading) between(w string, low, high int64) int {
	n, _ := new(big.Int).SetString(w, 10)
	if n.Cmp(big.NewInt(low)) < 0 || n.Cmp(big.NewInt(high)) > 0 {
		r.bad = true
		return 0
	}
	return int(n.Int64())
}

func (r *reading) number(w string) int { return r.between(w, math.MinInt64, math.MaxInt64) }

func (r *reading) numbers(l []string) []int {
	var out []int
	for _, w := range l {
		out = append(out, r.number(w))
	}
	return out
}

// when asks for nothing in a grid that may not be.
func (r *reading) when(l []string) (w api.When) {
	g := r.p.Grid
	if !mayBe(g) {
		return w
	}
	for run := range strings.SplitSeq(l[0], ",") {
		first, last := ends(run)
		for i := first; i <= last; i++ {
			if n := r.between(fmt.Sprint(i), 1, int64(g.Weeks)); n > 0 {
				w.Weeks |= 1 << (n - 1)
			}
		}
	}
	for _, letter := range l[1] {
		w.Days |= 1 << strings.IndexRune("mtwhfsu", letter)
	}
	start, length, _ := strings.Cut(l[2], "+")
	w.Start = r.between(start, 0, int64(g.Slots))
	w.Len = r.between(length, 1, int64(g.Slots-w.Start))
	r.bad = r.bad || bits.Len8(w.Days) > g.Days
	return w
}

// line takes in a line that is of its form, and stands where it may.
func (r *reading) line(line string) {
	l := strings.Split(line, " ")
	p, rest := &r.p, l[1:]
	switch l[0] {
	case "problem":
		n := r.numbers(rest[1:])
		p.Name, p.Grid = unword(rest[0]), api.Grid{Weeks: n[0], Days: n[1], Slots: n[2]}
	case "weigh":
		n := r.numbers(rest)
		p.Weigh = api.Weigh{Time: n[0], Place: n[1], Rule: n[2], Clash: n[3]}
	case "room":
		p.Rooms = append(p.Rooms, api.Room{Name: unword(rest[0]), Seats: r.number(rest[1]), Gear: uint16(r.between(rest[2], 0, 65535))})
	case "shut":
		x := &p.Rooms[len(p.Rooms)-1]
		x.Shut = append(x.Shut, r.when(rest))
	case "walk":
		r.walks = append(r.walks, r.numbers(rest))
	case "person":
		p.Persons = append(p.Persons, api.Person{Name: unword(rest[0])})
	case "away":
		x := &p.Persons[len(p.Persons)-1]
		x.Away = append(x.Away, r.when(rest))
	case "class":
		n := r.numbers(rest[1:])
		p.Classes = append(p.Classes, api.Class{Name: unword(rest[0]), Seats: n[0], Gear: uint16(r.between(rest[2], 0, 65535)), Over: n[2], Persons: n[3:]})
	case "time":
		x := &p.Classes[len(p.Classes)-1]
		x.Times = append(x.Times, api.Time{Cost: r.number(rest[0]), When: r.when(rest[1:])})
	case "place":
		x := &p.Classes[len(p.Classes)-1]
		x.Places = append(x.Places, api.Place{Cost: r.number(rest[0]), Room: r.number(rest[1])})
	case "course":
		p.Courses = append(p.Courses, api.Course{Name: unword(rest[0])})
	case "way":
		x := &p.Courses[len(p.Courses)-1]
		x.Ways = append(x.Ways, api.Way{})
	case "part":
		x := p.Courses[len(p.Courses)-1].Ways
		x[len(x)-1].Parts = append(x[len(x)-1].Parts, r.numbers(rest))
	case "student":
		p.Students = append(p.Students, api.Student{Name: unword(rest[0]), Courses: r.numbers(rest[1:])})
	case "rule":
		x := api.Rule{Kind: kinds()[slices.Index(kindNames(), rest[0])], Hard: rest[1] == "hard", A: r.number(rest[2]), B: r.number(rest[3]), Classes: r.numbers(rest[4:])}
		if !x.Hard {
			x.Cost = r.number(rest[1])
		}
		p.Rules = append(p.Rules, x)
	}
}

// walk tells the walks that there may be between the rooms that there are.
func (r *reading) walk() {
	n := len(r.p.Rooms)
	if n > 24 {
		return
	}
	for range n {
		r.p.Walk = append(r.p.Walk, make([]int, n))
	}
	for _, x := range r.walks {
		if x[0] >= 0 && x[0] < x[1] && x[1] < n {
			r.p.Walk[x[0]][x[1]], r.p.Walk[x[1]][x[0]] = x[2], x[2]
		}
	}
}

// parseThat looks at all lines three times: for what has no form or no place, for what is out of its range, for what may not be.
func parseThat(text string) (api.Problem, int, api.Errno) {
	if !strings.HasSuffix(text, "\n") {
		return api.Problem{}, 0, api.ErrForm
	}
	lines, order := linesOf(text), ""
	var head reading
	for i, line := range lines {
		first, _, _ := strings.Cut(line, " ")
		order += letterOf[first]
		if !isForm(line, mayBe(head.p.Grid)) || !orders.MatchString(order) {
			return api.Problem{}, i, api.ErrForm
		}
		if i == 0 {
			head.line(line)
		}
	}
	var r reading
	for i, line := range lines {
		if r.line(line); r.bad {
			return api.Problem{}, i, api.ErrRange
		}
	}
	if r.walk(); !problem.Right(r.p) || textThat(r.p) != text {
		return api.Problem{}, len(lines), api.ErrProblem
	}
	return r.p, 0, api.OK
}

// What is wanted

func wantPrint(t *testing.T, p api.Problem, want string) {
	t.Helper()
	if got, err := paper.Print(p); got != want || err != api.OK {
		t.Errorf("Print is %q, %d, want %q", got, err, want)
	}
}

// wantNone: Print refuses a problem that may not be.
func wantNone(t *testing.T, p api.Problem) {
	t.Helper()
	if got, err := paper.Print(p); got != "" || err != api.ErrProblem {
		t.Errorf("Print is %q, %d", got, err)
	}
}

func wantParse(t *testing.T, text string, p api.Problem) {
	t.Helper()
	if got, n, err := paper.Parse(text); !same(got, p) || n != 0 || err != api.OK {
		t.Errorf("Parse of %q is %v, %d, %d, want %v", text, got, n, err, p)
	}
}

// wantRefused: nothing is told but the line and the error.
func wantRefused(t *testing.T, text string, line int, why api.Errno) {
	t.Helper()
	if got, n, err := paper.Parse(text); !same(got, api.Problem{}) || n != line || err != why {
		t.Errorf("Parse of %q is %d, %d, want %d, %d (or tells a problem)", text, n, err, line, why)
	}
}

// wantThat: Parse tells what the chapter's words do.
func wantThat(t *testing.T, text string) {
	t.Helper()
	p, line, why := parseThat(text)
	if why == api.OK {
		wantParse(t, text, p)
	} else {
		wantRefused(t, text, line, why)
	}
}

// TestOwnMeans: the problems and the means above are what they are said to be.
func TestOwnMeans(t *testing.T) {
	for i, p := range problems() {
		if err, n := problem.Check(p); err != api.OK {
			t.Errorf("problem %d: %d, %d", i, err, n)
		}
		if q, n, err := parseThat(textThat(p)); !same(p, q) || n != 0 || err != api.OK {
			t.Errorf("problem %d: %d, %d, %v, want %v", i, n, err, q, p)
		}
	}
	if textThat(springs()) != spring || textThat(leasts()) != least {
		t.Error("textThat")
	}
	if p := copyOf(springs(), 2); !same(p, springs()) || same(whole(inside(&p)).Interface().(api.Problem), springs()) {
		t.Error("copyOf, or whole")
	}
	full, count := sized(size{24, 24, 40, 16, 200, 60}, 99), 0
	rows(inside(&full), func(reflect.Value) { count++ })
	if c := full.Courses[3]; count < 500 || len(full.Rooms[7].Shut) != 16 || len(full.Persons[7].Away) != 16 || len(full.Classes[7].Persons) != 4 ||
		len(full.Classes[7].Times) != 16 || len(full.Classes[7].Places) != 12 || len(c.Ways) != 4 || len(c.Ways[3].Parts) != 4 || len(c.Ways[3].Parts[3]) != 8 ||
		len(full.Students[7].Courses) != 6 || len(full.Rules[7].Classes) != 12 {
		t.Error("the full one is not full:", count)
	}
}
