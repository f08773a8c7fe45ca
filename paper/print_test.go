package paper_test

import (
	"fmt"
	"math"
	"reflect"
	"slices"
	"strings"
	"testing"

	"horarium/api"
	"horarium/paper"
	"horarium/problem"
)

// P18.1

func TestPrint(t *testing.T) {
	wantPrint(t, springs(), spring)
	wantPrint(t, leasts(), least)
}

// TestPrintOfMany: few and many of each kind, with few and many rows.
func TestPrintOfMany(t *testing.T) {
	for _, p := range problems() {
		wantPrint(t, p, textThat(p))
	}
}

// TestPrintLine: of each line of the table the words, alone and several behind one another.
func TestPrintLine(t *testing.T) {
	for _, x := range []struct {
		change func(*api.Problem)
		want   []string
	}{
		{func(p *api.Problem) { p.Name, p.Grid = "a b", api.Grid{Weeks: 20, Days: 7, Slots: 96} }, []string{"problem a%20b 20 7 96", "weigh 1 1 1 1"}},
		{func(p *api.Problem) { p.Weigh = api.Weigh{Time: 0, Place: 1000, Rule: 7, Clash: 65} }, []string{"problem p 1 5 10", "weigh 0 1000 7 65"}},
		{func(p *api.Problem) { p.Rooms, p.Walk = []api.Room{{Name: "r"}}, [][]int{{0}} }, []string{"problem p 1 5 10", "weigh 1 1 1 1", "room r 0 0"}},
		{
			func(p *api.Problem) {
				p.Rooms = []api.Room{{Name: "r", Shut: []api.When{at(1, 31, 0, 10)}}, {Name: "s", Seats: 3, Gear: 9}, {Name: "q"}}
				p.Walk = [][]int{{0, 0, 7}, {0, 0, 0}, {7, 0, 0}}
			},
			[]string{"problem p 1 5 10", "weigh 1 1 1 1", "room r 0 0", "shut 1 mtwhf 0+10", "room s 3 9", "room q 0 0", "walk 0 2 7"},
		},
		{func(p *api.Problem) { p.Persons = []api.Person{{Name: "a"}} }, []string{"problem p 1 5 10", "weigh 1 1 1 1", "person a"}},
		{
			func(p *api.Problem) {
				p.Persons = []api.Person{{Name: "b", Away: []api.When{at(1, 16, 9, 1), at(1, 16, 9, 1)}}, {Name: "a", Away: []api.When{at(1, 1, 0, 1)}}}
			},
			[]string{"problem p 1 5 10", "weigh 1 1 1 1", "person b", "away 1 f 9+1", "away 1 f 9+1", "person a", "away 1 m 0+1"},
		},
		{
			func(p *api.Problem) {
				p.Classes = []api.Class{{Name: "c", Over: 0, Times: []api.Time{{When: at(1, 2, 3, 4), Cost: 5}, {When: at(1, 1, 3, 4)}}}}
				p.Courses = []api.Course{{Name: "o", Ways: []api.Way{{Parts: [][]int{{0}}}}}}
				p.Students = []api.Student{{Name: "s", Courses: row(0)}, {Name: "d"}}
			},
			[]string{"problem p 1 5 10", "weigh 1 1 1 1", "class c 0 0 0", "time 5 1 t 3+4", "time 0 1 m 3+4", "course o", "way", "part 0", "student s 0", "student d"},
		},
	} {
		p := but(leasts(), x.change)
		wantPrint(t, p, text(x.want...))
		wantParse(t, text(x.want...), p)
	}
}

// TestPrintRule: of each kind, hard and with a cost, with the least and the greatest numbers.
func TestPrintRule(t *testing.T) {
	for i, k := range kinds() {
		n := numbersOf(k)
		for _, cost := range row(0, 1, 999, 1000) {
			word := fmt.Sprint(cost)
			if cost == 0 {
				word = "hard"
			}
			for _, b := range row(n[2], n[3]) {
				for _, a := range row(n[0], n[1]) {
					p := sized(size{classes: 13}, 1)
					p.Rules = []api.Rule{{Kind: k, Classes: row(2, 0, 12), A: a, B: b, Hard: cost == 0, Cost: cost}}
					want := textThat(sized(size{classes: 13}, 1)) + fmt.Sprintf("rule %s %s %d %d 2 0 12\n", kindNames()[i], word, a, b)
					wantPrint(t, p, want)
					wantParse(t, want, p)
				}
			}
		}
	}
}

// TestPrintWalk: some pairs with nothing to walk, some with something, up to as many rooms as there may be.
func TestPrintWalk(t *testing.T) {
	for n := range 25 {
		for step := 1; step < 5; step++ {
			p := sized(size{rooms: n}, 0)
			var lines []string
			for i := range n {
				for j := range n {
					p.Walk[i][j] = 0
					if i != j && (i+j)%step == 0 {
						p.Walk[i][j] = 1 + (i+j)*2
					}
				}
			}
			for i := range n {
				for j := i + 1; j < n; j++ {
					if (i+j)%step == 0 {
						lines = append(lines, fmt.Sprintf("walk %d %d %d\n", i, j, 1+(i+j)*2))
					}
				}
			}
			without := but(p, func(p *api.Problem) {
				for i := range n {
					clear(p.Walk[i])
				}
			})
			want := textThat(without) + strings.Join(lines, "")
			wantPrint(t, p, want)
			wantParse(t, want, p)
		}
	}
}

// TestPrintName: names of each byte, of the words of the table, of any length, in each place of a name.
func TestPrintName(t *testing.T) {
	names := []string{
		"%", "%%", " ", "  ", "a b", "\n", "a\n", "\na", "\"", "'a'", "\\", "\x00", "\xff\xfe", "é", "日本", "%20", "a%", "-", "-1", "0", "007", "1 m 0+1", "hard", "walk 0 1 3",
		strings.Repeat("\n", 24), strings.Repeat("ü", 12), strings.Repeat("x", 24), "problem p 1 5 10",
	}
	for first := range forms {
		names = append(names, first)
	}
	for b := range 256 {
		names = append(names, string([]byte{byte(b)}), string([]byte{'a', byte(b)}), string([]byte{byte(b), byte(b)}))
	}
	for _, name := range names {
		p := springs()
		p.Name, p.Rooms[0].Name, p.Persons[0].Name, p.Classes[0].Name, p.Courses[0].Name, p.Students[0].Name = name, name, name, name, name, name
		want := textThat(p)
		wantPrint(t, p, want)
		wantParse(t, want, p)
		if n := strings.Count(want, "\n"); n != strings.Count(spring, "\n") || !strings.HasPrefix(want, "problem "+wordOf(name)+" 3 5 10\n") {
			t.Errorf("%q makes %d lines", name, n)
		}
	}
}

// TestPrintNumbers: the least and the greatest number of each field.
func TestPrintNumbers(t *testing.T) {
	for _, x := range []struct {
		ahead, behind string
		change        func(p *api.Problem, n int)
		numbers       []int
	}{
		{"problem spring ", " 7 96\n", func(p *api.Problem, n int) { p.Grid = api.Grid{Weeks: n, Days: 7, Slots: 96} }, row(3, 4, 20)},
		{"problem spring 20 ", " 96\n", func(p *api.Problem, n int) { p.Grid = api.Grid{Weeks: 20, Days: n, Slots: 96} }, row(5, 6, 7)},
		{"problem spring 20 7 ", "\n", func(p *api.Problem, n int) { p.Grid = api.Grid{Weeks: 20, Days: 7, Slots: n} }, row(10, 95, 96)},
		{"\nweigh ", " 2 3 4\n", func(p *api.Problem, n int) { p.Weigh.Time = n }, row(0, 1, 10, 1000)},
		{"\nweigh 1 ", " 3 4\n", func(p *api.Problem, n int) { p.Weigh.Place = n }, row(0, 1, 10, 1000)},
		{"\nweigh 1 2 ", " 4\n", func(p *api.Problem, n int) { p.Weigh.Rule = n }, row(0, 1, 10, 1000)},
		{"\nweigh 1 2 3 ", "\n", func(p *api.Problem, n int) { p.Weigh.Clash = n }, row(0, 1, 10, 1000)},
		{"\nroom hall ", " 5\n", func(p *api.Problem, n int) { p.Rooms[0].Seats = n }, row(0, 1, 100, 10000)},
		{"\nroom hall 120 ", "\n", func(p *api.Problem, n int) { p.Rooms[0].Gear = uint16(n) }, row(0, 1, 1<<15-1, 1<<15, 65535)},
		{"\nwalk 0 1 ", "\n", func(p *api.Problem, n int) { p.Walk[0][1], p.Walk[1][0] = n, n }, row(1, 2, 95, 96)},
		{"\nclass algebra ", " 4 -1 0\n", func(p *api.Problem, n int) { p.Classes[0].Seats = n }, row(0, 1, 9999, 10000)},
		{"\nclass algebra 100 ", " -1 0\n", func(p *api.Problem, n int) { p.Classes[0].Gear = uint16(n) }, row(0, 1, 1<<15-1, 1<<15, 65535)},
		{"\nclass algebra 100 4 ", " 0\n", func(p *api.Problem, n int) { p.Classes[0].Over = n }, row(-1, 0, 1, 2)},
		{"\nclass algebra 100 4 -1 ", "\n", func(p *api.Problem, n int) { p.Classes[0].Persons = row(n) }, row(0, 1)},
		{"\ntime ", " 2 w 2+3\n", func(p *api.Problem, n int) { p.Classes[1].Times[0].Cost = n }, row(0, 1, 1000)},
		{"\nplace ", " 0\n", func(p *api.Problem, n int) { p.Classes[0].Places[0].Cost = n }, row(0, 1, 1000)},
		{"\nplace 7 ", "\n", func(p *api.Problem, n int) { p.Classes[0].Places[1].Room = n }, row(1, 2)},
		{"\npart ", "\npart 1\n", func(p *api.Problem, n int) { p.Courses[0].Ways[0].Parts[0] = row(n) }, row(0, 2)},
		{"\nstudent max ", "\n", func(p *api.Problem, n int) { p.Students[2].Courses = row(n) }, row(0, 1)},
		{"\nrule mostblock ", " 4 0 1 0 2\n", func(p *api.Problem, n int) { p.Rules[1].Cost = n }, row(1, 1000)},
		{"\nrule mostblock 10 ", " 0 1 0 2\n", func(p *api.Problem, n int) { p.Rules[1].A = n }, row(1, 96)},
		{"\nrule mostblock 10 4 ", " 1 0 2\n", func(p *api.Problem, n int) { p.Rules[1].B = n }, row(0, 96)},
	} {
		for _, n := range x.numbers {
			p := but(springs(), func(p *api.Problem) { x.change(p, n) })
			want := textThat(p)
			wantPrint(t, p, want)
			wantParse(t, want, p)
			if line := x.ahead + fmt.Sprint(n) + x.behind; !strings.Contains(want, line) {
				t.Errorf("no line %q in %q", line, want)
			}
		}
	}
}

// wrongs are problems that may not be, at least one for each kind of wrong thing.
func wrongs() []api.Problem {
	var out []api.Problem
	add := func(change func(p *api.Problem)) { out = append(out, but(springs(), change)) }
	for _, name := range []string{"", strings.Repeat("x", 25)} {
		add(func(p *api.Problem) { p.Name = name })
		add(func(p *api.Problem) { p.Rooms[1].Name = name })
		add(func(p *api.Problem) { p.Persons[1].Name = name })
		add(func(p *api.Problem) { p.Classes[1].Name = name })
		add(func(p *api.Problem) { p.Courses[1].Name = name })
		add(func(p *api.Problem) { p.Students[1].Name = name })
	}
	for _, change := range []func(p *api.Problem){
		func(p *api.Problem) { p.Rooms[1].Name = "hall" },
		func(p *api.Problem) { p.Persons[1].Name = "ada" },
		func(p *api.Problem) { p.Classes[1].Name = "algebra" },
		func(p *api.Problem) { p.Courses[1].Name = "maths" },
		func(p *api.Problem) { p.Students[1].Name = "kim" },
		func(p *api.Problem) { p.Walk[0][2] = 1 },
		func(p *api.Problem) { p.Walk[1][1] = 1 },
		func(p *api.Problem) { p.Walk = p.Walk[:2] },
		func(p *api.Problem) { p.Walk[2] = p.Walk[2][:2] },
		func(p *api.Problem) { p.Walk = nil },
		func(p *api.Problem) { p.Walk[0][1], p.Walk[1][0] = 97, 97 },
		func(p *api.Problem) { p.Walk[0][1], p.Walk[1][0] = -1, -1 },
		func(p *api.Problem) { p.Classes[2].Times = nil },
		func(p *api.Problem) { p.Classes[0].Times[1].When = p.Classes[0].Times[0].When },
		func(p *api.Problem) { p.Classes[0].Places[1].Room = 0 },
		func(p *api.Problem) { p.Classes[1].Persons = row(1, 0) },
		func(p *api.Problem) { p.Courses[1].Ways = nil },
		func(p *api.Problem) { p.Courses[0].Ways[1].Parts = nil },
		func(p *api.Problem) { p.Courses[0].Ways[0].Parts[1] = nil },
		func(p *api.Problem) { p.Courses[0].Ways[1].Parts[0] = row(2, 0) },
		func(p *api.Problem) { p.Students[0].Courses = row(1, 0) },
		func(p *api.Problem) { p.Rules[1].Classes = row(1) },
		func(p *api.Problem) { p.Rules[1].Classes = row(1, 1) },
		func(p *api.Problem) { p.Rules[1].Classes = nil },
		func(p *api.Problem) { p.Rules[0].Cost = 1 },
		func(p *api.Problem) { p.Rules[1].Hard = true },
		func(p *api.Problem) { p.Rules[1].Cost = 0 },
		func(p *api.Problem) { p.Rules[0].Kind = 15 },
		func(p *api.Problem) { p.Rules[0].Kind = 0 },
		func(p *api.Problem) { p.Rules[0].A = 1 },
	} {
		add(change)
	}
	for i := range numberFields {
		for _, n := range row(math.MinInt, -2, 10001, math.MaxInt) {
			add(func(p *api.Problem) { *numberFields[i](p) = n })
		}
	}
	for i := range whenFields {
		for _, w := range []api.When{{}, at(8, 1, 0, 1), at(1, 32, 0, 1), at(1, 1, 10, 1), at(1, 1, 0, 11), at(1, 1, -1, 1), at(1, 1, 0, 0), at(0, 1, 0, 1), at(1, 0, 0, 1)} {
			add(func(p *api.Problem) { *whenFields[i](p) = w })
		}
	}
	return append(out, api.Problem{}, api.Problem{Name: "p"})
}

// numberFields are those of springs' numbers that an int beyond ten thousand may not be.
var numberFields = []func(p *api.Problem) *int{
	func(p *api.Problem) *int { return &p.Grid.Weeks },
	func(p *api.Problem) *int { return &p.Grid.Days },
	func(p *api.Problem) *int { return &p.Grid.Slots },
	func(p *api.Problem) *int { return &p.Weigh.Time },
	func(p *api.Problem) *int { return &p.Weigh.Place },
	func(p *api.Problem) *int { return &p.Weigh.Rule },
	func(p *api.Problem) *int { return &p.Weigh.Clash },
	func(p *api.Problem) *int { return &p.Rooms[0].Seats },
	func(p *api.Problem) *int { return &p.Classes[0].Seats },
	func(p *api.Problem) *int { return &p.Classes[0].Over },
	func(p *api.Problem) *int { return &p.Classes[0].Persons[0] },
	func(p *api.Problem) *int { return &p.Classes[0].Times[1].Cost },
	func(p *api.Problem) *int { return &p.Classes[0].Places[1].Cost },
	func(p *api.Problem) *int { return &p.Classes[0].Places[1].Room },
	func(p *api.Problem) *int { return &p.Courses[0].Ways[0].Parts[1][0] },
	func(p *api.Problem) *int { return &p.Students[0].Courses[1] },
	func(p *api.Problem) *int { return &p.Rules[1].Cost },
	func(p *api.Problem) *int { return &p.Rules[1].A },
	func(p *api.Problem) *int { return &p.Rules[1].B },
	func(p *api.Problem) *int { return &p.Rules[1].Classes[2] },
}

var whenFields = []func(p *api.Problem) *api.When{
	func(p *api.Problem) *api.When { return &p.Rooms[0].Shut[1] },
	func(p *api.Problem) *api.When { return &p.Persons[0].Away[0] },
	func(p *api.Problem) *api.When { return &p.Classes[0].Times[1].When },
}

// toomany have one thing more of a kind than there may be, or one more in a row.
func toomany() []api.Problem {
	full := size{24, 24, 40, 16, 200, 60}
	var out []api.Problem
	for _, change := range []func(n *size){
		func(n *size) { n.rooms++ }, func(n *size) { n.persons++ }, func(n *size) { n.classes++ },
		func(n *size) { n.courses++ }, func(n *size) { n.students++ }, func(n *size) { n.rules++ },
	} {
		n := full
		change(&n)
		out = append(out, sized(n, 3))
	}
	for _, change := range []func(p *api.Problem){
		func(p *api.Problem) { p.Rooms[2].Shut = someTimes(0, 17) },
		func(p *api.Problem) { p.Persons[2].Away = someTimes(0, 17) },
		func(p *api.Problem) { p.Classes[2].Persons = row(0, 1, 2, 3, 4) },
		func(p *api.Problem) { p.Classes[2].Times = append(p.Classes[2].Times, api.Time{When: someTime(50)}) },
		func(p *api.Problem) {
			p.Classes[2].Places = nil
			for i := range 13 {
				p.Classes[2].Places = append(p.Classes[2].Places, api.Place{Room: i})
			}
		},
		func(p *api.Problem) { p.Courses[2].Ways = append(p.Courses[2].Ways, p.Courses[2].Ways[0]) },
		func(p *api.Problem) { p.Courses[2].Ways[0].Parts = [][]int{{0}, {1}, {2}, {3}, {4}} },
		func(p *api.Problem) { p.Courses[2].Ways[0].Parts = [][]int{{0, 1, 2, 3, 4, 5, 6, 7, 8}} },
		func(p *api.Problem) { p.Students[2].Courses = row(0, 1, 2, 3, 4, 5, 6) },
		func(p *api.Problem) { p.Rules[2].Classes = row(0, 1, 2, 3, 4, 5, 6, 7, 8, 9, 10, 11, 12) },
	} {
		out = append(out, but(sized(full, 99), change))
	}
	return out
}

func TestPrintRefused(t *testing.T) {
	for _, p := range slices.Concat(wrongs(), toomany()) {
		if problem.Right(p) {
			t.Errorf("it may be: %v", p)
		}
		wantNone(t, p)
	}
}

func TestLine(t *testing.T) {
	every := ""
	for b := range 256 {
		every += string([]byte{byte(b)})
	}
	for _, x := range []struct {
		want  string
		words []string
	}{
		{"", nil},
		{"", []string{}},
		{"%", []string{""}},
		{"% %", []string{"", ""}},
		{"a", []string{"a"}},
		{"a%20b %", []string{"a b", ""}},
		{"walk 0 1 -3", []string{"walk", "0", "1", "-3"}},
		{"shut 1-3,5 mw 16+4", []string{"shut", "1-3,5", "mw", "16+4"}},
		{"%0a %00%ff %25 %c3%a9", []string{"\n", "\x00\xff", "%", "é"}},
		{wordOf(every) + " " + wordOf(every), []string{every, every}},
	} {
		if got := paper.Line(x.words); got != x.want {
			t.Errorf("Line(%q) is %q, want %q", x.words, got, x.want)
		}
	}
	for b := range 256 {
		for _, s := range []string{string([]byte{byte(b)}), string([]byte{'x', byte(b), 'y'})} {
			if got := paper.Line([]string{s, "a", s}); got != wordOf(s)+" a "+wordOf(s) {
				t.Errorf("Line of %q is %q", s, got)
			}
		}
	}
	if got := paper.Line(slices.Repeat([]string{"a b"}, 100000)); got != strings.Repeat("a%20b ", 99999)+"a%20b" {
		t.Error("Line of very many words")
	}
}

// TestPrintChangesNothing (R4): neither what is handed in, nor what stands in its spare room.
func TestPrintChangesNothing(t *testing.T) {
	for _, p := range append(problems(), wrongs()...) {
		p := copyOf(p, 3)
		before := whole(inside(&p)).Interface()
		paper.Print(p)
		if !reflect.DeepEqual(whole(inside(&p)).Interface(), before) {
			t.Fatalf("Print changed %v", before)
		}
	}
	words := []string{"a", "b", "spare", "room"}
	if got := paper.Line(words[:2]); got != "a b" || !slices.Equal(words, []string{"a", "b", "spare", "room"}) {
		t.Errorf("Line is %q, and the words are %q", got, words)
	}
}
