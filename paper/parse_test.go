package paper_test

import (
	"fmt"
	"math"
	"math/rand"
	"reflect"
	"slices"
	"strings"
	"testing"

	"horarium/api"
	"horarium/paper"
	"horarium/problem"
)

// P18.2

func TestParse(t *testing.T) {
	wantParse(t, spring, springs())
	wantParse(t, least, leasts())
}

func TestParseExample(t *testing.T) {
	wantParse(t, "problem p 1 5 10\nweigh 1 1 1 1\n", leasts())
	wantRefused(t, "problem p 1 5 10\n", 1, api.ErrProblem)
	wantRefused(t, "problem p 1 5 10\nroom\n", 1, api.ErrForm)
	wantRefused(t, "problem p 1 5 10\nroom hall 0 0\n", 1, api.ErrForm)
	wantRefused(t, "problem p 1 5 10\nroom hall 0 0\nweigh 1 1 1 1\n", 1, api.ErrForm)
}

// TestParseEnd: a text that is empty, or has no line feed at its end.
func TestParseEnd(t *testing.T) {
	for _, s := range []string{
		"", " ", "problem", "problem p 1 5 10", "problem p 1 5 10\nweigh 1 1 1 1", "problem p 1 5 10\nweigh 1 1 1 1\n ", "\n\nx", "\r", "\x00",
		"problem p 1 5 10\nbad\nweigh 1 1 1 1", "problem p 99999999999999999999 5 10\nweigh 1 1 1 1", "problem p 21 5 10\nweigh 1 1 1 1",
	} {
		wantRefused(t, s, 0, api.ErrForm)
	}
	for i := range len(spring) {
		if s := spring[:i]; !strings.HasSuffix(s, "\n") {
			wantRefused(t, s, 0, api.ErrForm)
		} else if s == strings.Join(linesOf(spring)[:1], "")+"\n" {
			wantRefused(t, s, 1, api.ErrProblem)
		} else {
			wantThat(t, s)
		}
	}
}

// TestParseCut: a text that is cut behind each of its lines is often a problem's, else it is told how many lines there are.
func TestParseCut(t *testing.T) {
	lines := linesOf(spring)
	// Behind these there is no weigh, a class has no time, a course no way, or a way no part.
	mayNot := row(1, 15, 20, 22, 24, 25, 28, 30, 31)
	for n := 1; n <= len(lines); n++ {
		_, line, err := paper.Parse(text(lines[:n]...))
		if slices.Contains(mayNot, n) {
			wantRefused(t, text(lines[:n]...), n, api.ErrProblem)
		} else if line != 0 || err != api.OK {
			t.Errorf("the first %d lines: %d, %d", n, line, err)
		}
	}
}

// badForms are lines of no form, by the first word of the line in whose place they stand.
var badForms = map[string][]string{
	"problem": {"problem", "problem p 1 5", "problem p 1 5 10 1", "problem 1 5 10", "problem p q 5 10", "problem p 1 x 10", "problem p 1 5 +10", "problem p 01 5 10", "problem p 1 5 1e1", "problem p -0 5 10", "problem p % 5 10", "Problem p 1 5 10", "problems p 1 5 10", "problem  p 1 5 10", "problem p 1 5 10 ", " problem p 1 5 10", "problem p\" 1 5 10", "problem %70 1 5 10", "problem p% 1 5 10", "problem p%2 1 5 10", "problem p%2A 1 5 10", "problem p\t1 5 10"},
	"weigh":   {"weigh", "weigh 1 1 1", "weigh 1 1 1 1 1", "weigh 1 1 1 x", "weigh x 1 1 1", "weigh 1 00 1 1", "weigh 1 1 0x1 1", "weigh 1 1 1 1.0", "weigh p 1 1 1 1"},
	"room":    {"room", "room r", "room r 1", "room r 1 2 3", "room r x 1", "room r 1 x", "room r 1 01", "room r -0 1", "room r 1 -0", "room r 1 %", "room % 1", "rooms r 1 1", "roo r 1 1", "room r 1 1 ", "room  r 1 1", "room r=\x7f 1 1"},
	"shut":    {"shut", "shut 1", "shut 1 m", "shut 1 m 0+1 1", "shut 1 m 0", "shut 1 m 0-1", "shut 1 m +1", "shut 1 m 0+", "shut 1 m 0+1+1", "shut m 1 0+1", "shut 1,2 m 0+1", "shut 2-1 m 0+1", "shut 2,1 m 0+1", "shut 1-1 m 0+1", "shut 1- m 0+1", "shut -1 m 0+1", "shut 01 m 0+1", "shut 100 m 0+1", "shut 1 tm 0+1", "shut 1 mm 0+1", "shut 1 x 0+1", "shut 1 M 0+1", "shut 1 m -1+1", "shut 1 m 0+-1", "shut 1 m 00+1", "shut 1 m 0+01", "shut % m 0+1", "shut 1 % 0+1", "shut 1 m %", "shut 1%20m 0+1 %", "shut 1%20m 0+1", "shut 1%20m%200+1", "shut 1 m%200+1", "shut 5 1 m 0+1", "shut hall 1 m 0+1"},
	"walk":    {"walk", "walk 0", "walk 0 1", "walk 0 1 3 1", "walk x 1 3", "walk 0 x 3", "walk 0 1 x", "walk 00 1 3", "walk 0 01 3", "walk 0 1 03", "walk hall cellar 3", "walk 0 1 %"},
	"person":  {"person", "person a b", "person a 1", "person a%61", "person a ", "Person a"},
	"away":    {"away", "away 1", "away 1 m", "away 1 m 0+1 0", "away 1 m 0", "away 1,2 m 0+1", "away 1 tm 0+1", "away 1 m 0+x", "away x m 0+1", "away 1 m 0+01", "away ada 1 m 0+1"},
	"class":   {"class", "class c", "class c 1", "class c 1 1", "class c x 1 0", "class c 1 x 0", "class c 1 1 x", "class c 1 1 0 x", "class c 1 1 0 0 x", "class c 1 1 0 0 01", "class c 01 1 0", "class c 1 01 0", "class c 1 1 01", "class c 1 1 -01", "class c 1 1 -", "class c 1 -0 0", "class c 1 1 0 %", "class c 1 1 0 ada"},
	"time":    {"time", "time 5", "time 5 1", "time 5 1 m", "time 1 m 0+1", "time 5 1 m 0+1 1", "time x 1 m 0+1", "time 05 1 m 0+1", "time 5 x m 0+1", "time 5 1 x 0+1", "time 5 1 m x", "time 5 1,2 m 0+1", "time % 1 m 0+1", "time hard 1 m 0+1"},
	"place":   {"place", "place 0", "place 0 0 0", "place x 0", "place 0 x", "place 00 0", "place 0 00", "place 0 hall", "place % 0"},
	"course":  {"course", "course o 1", "course o p", "course o%6f", "course o "},
	"way":     {"way 0", "way w", "way %", "way ", "ways"},
	"part":    {"part x", "part 0 x", "part 00", "part 0 01", "part %", "part ", "part 0 ", "part 0  1", "part a", "parts 0"},
	"student": {"student", "student s x", "student s 0 x", "student s 00", "student s -0", "student s %", "student s 0 ", "students s 0", "student s maths"},
	"rule":    {"rule", "rule meet", "rule meet hard", "rule meet hard 0", "rule meets hard 0 0 0 1", "rule Meet hard 0 0 0 1", "rule 8 hard 0 0 0 1", "rule % hard 0 0 0 1", "rule meet soft 0 0 0 1", "rule meet Hard 0 0 0 1", "rule meet % 0 0 0 1", "rule meet 01 0 0 0 1", "rule meet hard x 0 0 1", "rule meet hard 0 x 0 1", "rule meet hard 0 0 x 1", "rule meet hard 0 0 0 x", "rule meet hard 00 0 0 1", "rule meet hard 0 00 0 1", "rule meet hard 0 0 00 1", "rule hard meet 0 0 0 1", "rule meet hard hard 0 0 1", "rule most 10 4 0 1 0", "rule mostblock mostblock 4 0 1 0"},
}

// TestParseForm: each line of no form, first, amid and last, with nothing told but the line.
func TestParseForm(t *testing.T) {
	for i, line := range linesOf(spring) {
		first, _, _ := strings.Cut(line, " ")
		for _, bad := range badForms[first] {
			if isForm(bad, true) {
				t.Errorf("%q is of a form", bad)
			}
			wantRefused(t, with(spring, i, i+1, bad), i, api.ErrForm)
			wantRefused(t, text(append(linesOf(spring)[:i:i], bad)...), i, api.ErrForm)
		}
	}
}

// TestParseNoLine: what is none of the table's, in place of each line and ahead of it.
func TestParseNoLine(t *testing.T) {
	n := len(linesOf(spring))
	for _, bad := range []string{
		"", " ", "  ", "%", "% %", "x", "hello world", "Problem p 1 5 10", "rooms r 1 1", "hard", "meet", "0", "-1", "1 m 0+1", "problem%20p 1 5 10", "%70roblem p 1 5 10",
		"room%20r 1 1", "\x00", "\xff", "\r", "\t", "problem p 1 5 10\r", "\"", "room \"r\" 1 1", "%zz", "%2", "%2A", "é", "#", "# x",
	} {
		for i := range n + 1 {
			wantRefused(t, with(spring, i, i, bad), i, api.ErrForm)
			if i < n {
				wantRefused(t, with(spring, i, i+1, bad), i, api.ErrForm)
			}
		}
		wantRefused(t, bad+"\n", 0, api.ErrForm)
	}
}

// TestParseBytes: each byte in each place of each line of a text, in place of what is there, and ahead of it.
func TestParseBytes(t *testing.T) {
	whole := text("problem p 1 5 10", "weigh 1 1 1 1", "room r 1 2", "room s 0 0", "shut 1 mt 1+2", "walk 0 1 3", "class c 1 2 -1", "time 5 1 m 0+1", "rule meet hard 0 0")
	for _, s := range []string{whole, text("problem p 0 5 10", "weigh 1 1 1 1", "person x", "away 1 m 0+1", "class c 1 2 -1", "time 5 x y z")} {
		for i := range len(s) {
			for b := range 256 {
				x := string([]byte{byte(b)})
				wantThat(t, s[:i]+x+s[i:])
				wantThat(t, s[:i]+x+s[i+1:])
			}
			wantThat(t, s[:i]+s[i+1:])
		}
	}
}

// aLine is a line of each first word that names nothing that there is not in spring.
var aLine = map[string]string{
	"problem": "problem p 3 5 10", "weigh": "weigh 0 0 0 0", "room": "room r 0 0", "shut": "shut 1 m 0+1", "walk": "walk 0 2 1", "person": "person x", "away": "away 1 m 0+1",
	"class": "class c 0 0 -1", "time": "time 0 1 m 3+1", "place": "place 0 1", "course": "course o", "way": "way", "part": "part 0", "student": "student s", "rule": "rule meet 1 0 0 0 1",
}

// behind tells which first words may stand right behind each one.
var behind = map[string]string{
	"problem": "weigh",
	"weigh":   "room walk person class course student rule",
	"room":    "room shut walk person class course student rule",
	"shut":    "room shut walk person class course student rule",
	"walk":    "walk person class course student rule",
	"person":  "person away class course student rule",
	"away":    "person away class course student rule",
	"class":   "class time place course student rule",
	"time":    "class time place course student rule",
	"place":   "class place course student rule",
	"course":  "course way student rule",
	"way":     "course way part student rule",
	"part":    "course way part student rule",
	"student": "student rule",
	"rule":    "rule",
}

// TestParsePlace: each line right behind each line; where it may not stand, it is told ahead of all else.
func TestParsePlace(t *testing.T) {
	for i, line := range linesOf(spring) {
		ahead, _, _ := strings.Cut(line, " ")
		for first, line := range aLine {
			if may := slices.Contains(strings.Fields(behind[ahead]), first); may {
				_, n, err := paper.Parse(text(append(linesOf(spring)[:i+1:i+1], line)...))
				if err == api.ErrForm || err == api.ErrRange {
					t.Errorf("%q behind %q: %d, %d", line, ahead, n, err)
				}
				wantThat(t, with(spring, i+1, i+1, line))
				continue
			}
			wantRefused(t, with(spring, i+1, i+1, line), i+1, api.ErrForm)
			wantRefused(t, text(append(linesOf(spring)[:i+1:i+1], line)...), i+1, api.ErrForm)
		}
	}
}

// TestParseFirst: nothing but problem stands first, nothing but weigh second, neither anywhere else.
func TestParseFirst(t *testing.T) {
	lines := linesOf(spring)
	for first, line := range aLine {
		if first != "problem" {
			wantRefused(t, text(line), 0, api.ErrForm)
			wantRefused(t, with(spring, 0, 0, line), 0, api.ErrForm)
			wantRefused(t, with(spring, 0, 1, line), 0, api.ErrForm)
		}
		if first != "weigh" {
			wantRefused(t, text(lines[0], line), 1, api.ErrForm)
			wantRefused(t, with(spring, 1, 1, line), 1, api.ErrForm)
			wantRefused(t, with(spring, 1, 2, line), 1, api.ErrForm)
		}
	}
	for i := 1; i <= len(lines); i++ {
		wantRefused(t, with(spring, i, i, lines[0]), i, api.ErrForm)
		wantRefused(t, with(spring, i, i, aLine["problem"]), i, api.ErrForm)
		if i != 1 {
			wantRefused(t, with(spring, i, i, lines[1]), i, api.ErrForm)
			wantRefused(t, with(spring, i, i, aLine["weigh"]), i, api.ErrForm)
		}
	}
	// Of weigh twice the second one stands where it may not.
	wantRefused(t, with(spring, 1, 1, lines[1]), 2, api.ErrForm)
	wantRefused(t, with(spring, 0, 1), 0, api.ErrForm)
	wantRefused(t, with(spring, 1, 2), 1, api.ErrForm)
	wantRefused(t, with(spring, 0, 2, lines[1], lines[0]), 0, api.ErrForm)
}

// TestParseOrder: lines of two and of three first words, in each order, against the chapter's words.
func TestParseOrder(t *testing.T) {
	for _, a := range aLine {
		for _, b := range aLine {
			wantThat(t, text(a, b))
			wantThat(t, least+text(a, b))
			for _, c := range aLine {
				wantThat(t, least+text(a, b, c))
				wantThat(t, least+text("room q 0 0", "class d 0 0 -1", a, b, c))
				wantThat(t, least+text("person q", "course d", a, b, c))
			}
		}
	}
}

// ints, as texts, beside those that an int holds, and far beyond.
var tooBig = []string{
	"9223372036854775808", "-9223372036854775809", "9223372036854775809", "18446744073709551615", "18446744073709551616", "-18446744073709551616", "18446744073709551617",
	"99999999999999999999", "-99999999999999999999", "1" + strings.Repeat("0", 300), "-" + strings.Repeat("9", 300),
}

var justFits = []string{"9223372036854775807", "-9223372036854775808", "9223372036854775806", "4294967296", "-4294967295", "2147483648", "65536", "-1"}

// numbersAt: where in a line words stand that are numbers, and where its gear stands (0: it has none).
func numbersAt(line string) ([]int, int) {
	l := strings.Fields(line)
	switch l[0] {
	case "problem":
		return row(2, 3, 4), 0
	case "weigh":
		return row(1, 2, 3, 4), 0
	case "room":
		return row(2, 3), 3
	case "class":
		return rest(l, 2), 3
	case "walk", "part":
		return rest(l, 1), 0
	case "time":
		return row(1), 0
	case "place":
		return row(1, 2), 0
	case "student":
		return rest(l, 2), 0
	case "rule":
		if l[2] == "hard" {
			return rest(l, 3), 0
		}
		return rest(l, 2), 0
	}
	return nil, 0
}

// rest are the places of l from first on.
func rest(l []string, first int) []int {
	var out []int
	for i := first; i < len(l); i++ {
		out = append(out, i)
	}
	return out
}

// put is the line with another word at a place.
func put(line string, at int, word string) string {
	l := strings.Fields(line)
	l[at] = word
	return strings.Join(l, " ")
}

// TestParseRange: each number of each line beyond its field, and far beyond, below 0 too; and those that just fit it.
func TestParseRange(t *testing.T) {
	lines := linesOf(spring)
	for i, line := range lines {
		places, gear := numbersAt(line)
		for _, at := range places {
			for _, n := range tooBig {
				wantRefused(t, with(spring, i, i+1, put(line, at, n)), i, api.ErrRange)
			}
			for _, n := range justFits {
				s := with(spring, i, i+1, put(line, at, n))
				switch {
				case at == gear:
					wantRefused(t, s, i, api.ErrRange)
				case i == 0:
					// In a grid that may not be no time is out of its range.
					wantRefused(t, s, len(lines), api.ErrProblem)
				case parses(s):
					wantThat(t, s)
				default:
					wantRefused(t, s, len(lines), api.ErrProblem)
				}
			}
		}
		if gear > 0 {
			for _, n := range row(0, 1, 32767, 32768, 65534, 65535) {
				if _, n, err := paper.Parse(with(spring, i, i+1, put(line, gear, fmt.Sprint(n)))); n != 0 || err != api.OK {
					t.Errorf("gear %d in line %d: %d, %d", n, i, n, err)
				}
			}
			for _, n := range row(65536, 65537, 1<<17, 1<<32, 1<<32+1, math.MaxInt, -1, -2, -65535, -65536, math.MinInt) {
				wantRefused(t, with(spring, i, i+1, put(line, gear, fmt.Sprint(n))), i, api.ErrRange)
			}
		}
	}
}

// parses tells whether a text is a problem's.
func parses(text string) bool {
	_, _, err := parseThat(text)
	return err == api.OK
}

// TestParseWhen: a When that is out of its range, and one that is just within it.
func TestParseWhen(t *testing.T) {
	for i, line := range linesOf(spring) {
		l := strings.Fields(line)
		at := map[string]int{"shut": 1, "away": 1, "time": 2}[l[0]]
		if at == 0 {
			continue
		}
		head := strings.Join(l[:at], " ")
		for _, w := range []string{
			"4 m 0+1", "20 m 0+1", "21 m 0+1", "99 m 0+1", "0 m 0+1", "0-3 m 0+1", "0,2 m 0+1", "1,4 m 0+1", "1-4 m 0+1", "3-4 m 0+1", "1 s 0+1", "1 u 0+1", "1 ms 0+1", "1 mtwhfsu 0+1",
			"1 m 0+11", "1 m 10+1", "1 m 9+2", "1 m 1+10", "1 m 0+0", "1 m 9+0", "1 m 10+0", "1 m 96+1", "1 m 0+97", "1 m 9223372036854775807+1", "1 m 1+9223372036854775807",
			"1 m 99999999999999999999+1", "1 m 0+99999999999999999999", "1 m 18446744073709551616+1", "1 m 0+18446744073709551617", "99 u 99999999999999999999+99999999999999999999",
		} {
			wantRefused(t, with(spring, i, i+1, head+" "+w), i, api.ErrRange)
		}
		for _, w := range []string{"3 m 3+1", "1-3 mtwhf 0+10", "1,3 f 9+1", "1 h 0+9", "2-3 mf 8+2"} {
			if _, n, err := paper.Parse(with(spring, i, i+1, head+" "+w)); n != 0 || err != api.OK {
				t.Errorf("%q in line %d: %d, %d", w, i, n, err)
			}
		}
	}
	// Which When is out of its range hangs on the grid.
	far := text("problem p 20 7 96", "weigh 1 1 1 1", "person x", "away 20 u 95+1", "away 1-20 mtwhfsu 0+96")
	wantParse(t, far, api.Problem{
		Name: "p", Grid: api.Grid{Weeks: 20, Days: 7, Slots: 96}, Weigh: leasts().Weigh,
		Persons: []api.Person{{Name: "x", Away: []api.When{at(1<<19, 64, 95, 1), at(1<<20-1, 127, 0, 96)}}},
	})
	wantRefused(t, with(far, 0, 1, "problem p 19 7 96"), 3, api.ErrRange)
	wantRefused(t, with(far, 0, 1, "problem p 20 6 96"), 3, api.ErrRange)
	wantRefused(t, with(far, 0, 1, "problem p 20 7 95"), 3, api.ErrRange)
	wantRefused(t, with(far, 3, 4, "away 20 u 95+2"), 3, api.ErrRange)
	wantRefused(t, with(far, 4, 5, "away 1-20 mtwhfsu 0+97"), 4, api.ErrRange)
}

// noGrids are grids that may not be, and among them some whose numbers no int holds.
var noGrids = []string{
	"0 5 10", "21 5 10", "-1 5 10", "1 0 10", "1 8 10", "1 -1 10", "1 5 0", "1 5 97", "1 5 -1", "0 0 0", "-3 -5 -10", "21 8 97",
	"9223372036854775807 5 10", "1 -9223372036854775808 10", "1 5 65536", "4294967297 5 10", "1 261 10", "257 5 10",
}

var farGrids = []string{"9223372036854775808 5 10", "1 -9223372036854775809 10", "1 5 18446744073709551626", "18446744073709551617 5 10", "99999999999999999999 8 97"}

// anyWords are three words each that stand for a When in a grid that may not be alone.
var anyWords = []string{
	"x y z", "1 2 3", "1 m 0", "1,2 m 0+1", "2-1 m 0+1", "1-1 m 0+1", "01 m 0+1", "-1 m 0+1", "100 m 0+1", "1 tm 0+1", "1 mm 0+1", "1 x 0+1", "1 M 0+1", "1 m 00+1", "1 m 0+01",
	"1 m -1+1", "1 m +1", "1 m 0+", "1 m 0-1", "1 m 0+1+1", "m 1 0+1", "0+1 m 1", "% % %", "% m 0+1", "1 % 0+1", "1 m %", "1%20m 0+1 %", "% 1%20m 0+1", "1%20m 0+1 x",
	"a%20b%0a %00 %ff", "shut away time", "hard hard hard", "m m m",
}

// gridded are lines in a grid, of which three have a When: those with the numbers 3, 5 and 7.
func gridded(grid string) string {
	return text("problem p "+grid, "weigh 1 1 1 1", "room r 0 0", "shut 1 m 0+1", "person x", "away 1 m 0+1", "class c 0 0 -1", "time 0 1 m 0+1", "place 0 0")
}

// whenHeads are the beginnings of those lines, ahead of the When.
var whenHeads = map[int]string{3: "shut ", 5: "away ", 7: "time 0 "}

// TestParseGrid: in a grid that may not be a When is neither of no form nor out of its range, whatever its words are.
func TestParseGrid(t *testing.T) {
	for _, grid := range noGrids {
		s := gridded(grid)
		wantRefused(t, s, 9, api.ErrProblem)
		for at, head := range whenHeads {
			for _, w := range append([]string{"20 u 95+9", "99 m 99+99", "0 m 0+0", "1-20 mtwhfsu 99999999999999999999+1"}, anyWords...) {
				bad := with(s, at, at+1, head+w)
				wantRefused(t, bad, 9, api.ErrProblem)
				wantThat(t, bad)
			}
		}
		all := with(with(with(s, 3, 4, "shut x y z"), 5, 6, "away 1 2 3"), 7, 8, "time 0 % % %", "time 0 % % %")
		wantRefused(t, all, 10, api.ErrProblem)
		// What is wrong beside goes ahead, as anywhere.
		wantRefused(t, with(all, 7, 8, "time 9223372036854775808 x y z"), 7, api.ErrRange)
		wantRefused(t, with(all, 2, 3, "room r 0 65536"), 2, api.ErrRange)
		wantRefused(t, with(all, 9, 10, "place 0"), 9, api.ErrForm)
		wantRefused(t, with(all, 9, 10, "time 0 x y z", "shut x y z"), 10, api.ErrForm)
	}
}

// TestParseGridForm: in a grid that may not be the lines that have a When have as many words as anywhere, and a cost that is a number's text.
func TestParseGridForm(t *testing.T) {
	for _, grid := range append(noGrids, farGrids...) {
		s := gridded(grid)
		for at, head := range whenHeads {
			for _, w := range []string{"", "x", "x y", "1 m", "1%20m%200+1", "1%20m 0+1", "x y z x", "1 m 0+1 1", "1 m 0+1 %", "x y z ", " x y z", "x  y z", "x  y", "%zz y z", "x %2 z", "x y %2A", "x y z%", "x y \"z\"", "x\ty z"} {
				wantRefused(t, with(s, at, at+1, head+w), at, api.ErrForm)
			}
			wantRefused(t, with(s, at, at+1, strings.TrimSuffix(head, " ")), at, api.ErrForm)
		}
		for _, cost := range []string{"x", "%", "00", "01", "-0", "+1", "-", "1e1", "hard", "9223372036854775808x", "a%20b"} {
			wantRefused(t, with(s, 7, 8, "time "+cost+" 1 m 0+1"), 7, api.ErrForm)
			wantRefused(t, with(s, 7, 8, "time "+cost+" x y z"), 7, api.ErrForm)
		}
	}
}

// TestParseGridFar: a grid with a number that no int holds may not be either; that is what is told, whatever words stand for a When.
func TestParseGridFar(t *testing.T) {
	for _, grid := range farGrids {
		s := gridded(grid)
		wantRefused(t, s, 0, api.ErrRange)
		for at, head := range whenHeads {
			for _, w := range append([]string{"20 u 95+9", "99 m 99+99"}, anyWords...) {
				wantRefused(t, with(s, at, at+1, head+w), 0, api.ErrRange)
			}
		}
	}
}

// TestParseGridEdge: the same words are of no form in the least grid and in the greatest one.
func TestParseGridEdge(t *testing.T) {
	for _, grid := range []string{"1 1 1", "20 7 96", "1 7 96", "20 1 96", "20 7 1"} {
		s := gridded(grid)
		if p, n, err := paper.Parse(s); n != 0 || err != api.OK || p.Rooms[0].Shut[0] != at(1, 1, 0, 1) {
			t.Errorf("%s: %d, %d", grid, n, err)
		}
		for at, head := range whenHeads {
			for _, w := range anyWords {
				wantRefused(t, with(s, at, at+1, head+w), at, api.ErrForm)
			}
			wantRefused(t, with(s, at, at+1, head+"99 m 0+1"), at, api.ErrRange)
		}
	}
}

// TestParseTwoWrong: a line of no form goes ahead of what is out of its range, that ahead of what may not be; of two of one kind the first one.
func TestParseTwoWrong(t *testing.T) {
	lines := linesOf(spring)
	formless, rangeless, wrong := map[int]string{}, map[int]string{}, map[int]string{}
	for i, line := range lines {
		formless[i] = line + " x y"
		if places, _ := numbersAt(line); len(places) > 0 {
			rangeless[i] = put(line, places[len(places)-1], "9223372036854775808")
			wrong[i] = put(line, places[0], "-7")
		} else if at := strings.Index(line, "+"); at >= 0 {
			rangeless[i] = line[:at] + "+11"
		}
	}
	for i := range lines {
		for j := range lines {
			if i == j {
				continue
			}
			both := func(a, b map[int]string) string {
				s := with(spring, i, i+1, a[i])
				return with(s, j, j+1, b[j])
			}
			wantRefused(t, both(formless, formless), min(i, j), api.ErrForm)
			if rangeless[j] != "" {
				wantRefused(t, both(formless, rangeless), i, api.ErrForm)
			}
			if rangeless[i] != "" && rangeless[j] != "" {
				wantRefused(t, both(rangeless, rangeless), min(i, j), api.ErrRange)
			}
			if wrong[j] != "" {
				wantRefused(t, both(formless, wrong), i, api.ErrForm)
				// In a grid that may not be no When is out of its range.
				places, _ := numbersAt(lines[i])
				if rangeless[i] != "" && (j != 0 || len(places) > 0) {
					wantRefused(t, both(rangeless, wrong), i, api.ErrRange)
				}
				if wrong[i] != "" {
					wantRefused(t, both(wrong, wrong), len(lines), api.ErrProblem)
				}
			}
		}
	}
}

// TestParseTwoWrongInALine: of one line, too, no form goes ahead.
func TestParseTwoWrongInALine(t *testing.T) {
	const big = "9223372036854775808"
	for _, x := range []struct {
		ahead []string
		line  string
		err   api.Errno
	}{
		{nil, "problem p " + big + " x 10", api.ErrForm},
		{nil, "problem p x " + big + " 10", api.ErrForm},
		{nil, "problem p " + big + " 5", api.ErrForm},
		{nil, "problem p " + big + " 5 10 1", api.ErrForm},
		{nil, "problem p " + big + " -" + big + "0 10", api.ErrRange},
		{nil, "problem % " + big + " 5 10", api.ErrRange},
		{[]string{"problem p 1 5 10"}, "weigh 1 " + big + " 1", api.ErrForm},
		{[]string{"problem p 1 5 10"}, "weigh 1 " + big + " 1 01", api.ErrForm},
		{[]string{"problem p 1 5 10"}, "weigh 1 " + big + " 1 1 1", api.ErrForm},
		{[]string{"problem p 1 5 10"}, "weigh -1 " + big + " 1 1001", api.ErrRange},
		{linesOf(least), "room r 65536 x", api.ErrForm},
		{linesOf(least), "room r x 65536", api.ErrForm},
		{linesOf(least), "room r 1 65536 1", api.ErrForm},
		{linesOf(least), "room r " + big + " -1", api.ErrRange},
		{linesOf(least), "shut 1 m 0+99", api.ErrForm},
		{append(linesOf(least), "room r 1 1"), "shut 99 m 0+x", api.ErrForm},
		{append(linesOf(least), "room r 1 1"), "shut 99 m 0+1 1", api.ErrForm},
		{append(linesOf(least), "room r 1 1"), "shut 99 z 0+1", api.ErrForm},
		{append(linesOf(least), "room r 1 1"), "walk " + big + " 0", api.ErrForm},
		{append(linesOf(least), "room r 1 1"), "walk " + big + " 0 x", api.ErrForm},
		{append(linesOf(least), "class c 0 0 -1"), "time " + big + " 1 m 0+x", api.ErrForm},
		{append(linesOf(least), "class c 0 0 -1"), "time x 1 m 0+99", api.ErrForm},
		{append(linesOf(least), "class c 0 0 -1"), "time " + big + " 9 m 0+99", api.ErrRange},
		{append(linesOf(least), "class c 0 0 -1"), "place " + big + " x", api.ErrForm},
		{append(linesOf(least), "class c 0 0 -1"), "place x " + big, api.ErrForm},
		{linesOf(least), "class c 0 -1 0 x", api.ErrForm},
		{linesOf(least), "class c 0 -1 0 " + big, api.ErrRange},
		{linesOf(least), "student s " + big + " x", api.ErrForm},
		{linesOf(least), "student s x " + big, api.ErrForm},
		{linesOf(least), "rule meets " + big + " 0 0", api.ErrForm},
		{linesOf(least), "rule meet " + big + " 0", api.ErrForm},
		{linesOf(least), "rule meet soft " + big + " 0", api.ErrForm},
		{linesOf(least), "rule meet hard " + big + " 0 0 x", api.ErrForm},
		{linesOf(least), "rule meet hard " + big + " 0 0 1", api.ErrRange},
	} {
		wantRefused(t, text(append(slices.Clone(x.ahead), x.line)...), len(x.ahead), x.err)
	}
}

// TestParseMayNotBe: what may not be is told with how many lines there are, for each kind of wrong thing.
func TestParseMayNotBe(t *testing.T) {
	told := 0
	for _, p := range slices.Concat(wrongs(), toomany()) {
		if !tellable(p) {
			continue
		}
		s := textThat(p)
		if _, _, err := parseThat(s); err == api.ErrForm || err == api.ErrRange {
			continue
		}
		told++
		wantRefused(t, s, strings.Count(s, "\n"), api.ErrProblem)
	}
	if told < 100 {
		t.Errorf("only %d", told)
	}
}

// tellable tells whether lines can tell all that a problem has: rules of kinds that there are, hard ones without a cost, walks there and back.
func tellable(p api.Problem) bool {
	for _, r := range p.Rules {
		if !slices.Contains(kinds(), r.Kind) || r.Hard && r.Cost != 0 {
			return false
		}
	}
	for a, l := range p.Walk {
		if len(l) != len(p.Rooms) || l[a] != 0 {
			return false
		}
		for b := range a {
			if l[b] != p.Walk[b][a] {
				return false
			}
		}
	}
	return len(p.Walk) == len(p.Rooms)
}

// TestParseMayNotBeLine: each line of what may not be, at the limits that the chapters name and one beyond.
func TestParseMayNotBeLine(t *testing.T) {
	n := len(linesOf(spring))
	for _, x := range []struct {
		at   int
		line string
	}{
		{0, "problem % 3 5 10"}, {0, "problem " + strings.Repeat("x", 25) + " 3 5 10"}, {0, "problem spring 0 5 10"}, {0, "problem spring 21 5 10"}, {0, "problem spring 3 0 10"},
		{0, "problem spring 3 8 10"}, {0, "problem spring 3 5 0"}, {0, "problem spring 3 5 97"}, {1, "weigh -1 2 3 4"}, {1, "weigh 1001 2 3 4"}, {1, "weigh 1 2 3 1001"},
		{2, "room % 120 5"}, {2, "room cellar 120 5"}, {2, "room hall 10001 5"}, {2, "room hall -1 5"}, {8, "walk 0 1 97"}, {8, "walk 0 1 -1"}, {8, "walk 0 0 3"}, {8, "walk 0 3 3"},
		{8, "walk -1 1 3"}, {8, "walk 0 9223372036854775807 3"}, {8, "walk -9223372036854775808 9223372036854775807 3"}, {10, "person bob"}, {10, "person %"},
		{14, "class lab 100 4 -1 0"}, {14, "class algebra 10001 4 -1 0"}, {14, "class algebra 100 4 -2 0"}, {14, "class algebra 100 4 3 0"}, {14, "class algebra 100 4 -1 2"},
		{14, "class algebra 100 4 -1 0 0"}, {14, "class algebra 100 4 -1 1 0"}, {15, "time 1001 1-3 m 0+2"}, {15, "time -1 1-3 m 0+2"}, {16, "time 1000 1-3 m 0+2"}, {17, "place 1001 0"},
		{17, "place -1 0"}, {17, "place 0 3"}, {17, "place 0 2"}, {17, "place 0 -1"}, {23, "course sports"}, {25, "part"}, {25, "part 3"}, {25, "part -1"}, {28, "part 2 0"},
		{28, "part 0 0"}, {32, "student kim 1 0"}, {32, "student kim 2"}, {33, "student kim"}, {35, "rule meet hard 1 0 0 1"}, {35, "rule meet hard 0 0 0"}, {35, "rule meet hard 0 0"},
		{35, "rule meet 0 0 0 0 1"}, {35, "rule meet 1001 0 0 0 1"}, {35, "rule meet hard 0 0 0 3"}, {35, "rule meet hard 0 0 0 0"}, {36, "rule mostdays hard 8 0 0 1"},
	} {
		wantRefused(t, with(spring, x.at, x.at+1, x.line), n, api.ErrProblem)
	}
	// What has gone is missed.
	for _, x := range []struct {
		from, to int
		first    string
	}{{20, 21, "time"}, {22, 23, "time"}, {30, 32, "way"}, {31, 32, "part"}, {24, 29, "way"}, {25, 27, "part"}} {
		if !strings.HasPrefix(linesOf(spring)[x.from], x.first) {
			t.Fatalf("line %d is no %s", x.from, x.first)
		}
		wantRefused(t, with(spring, x.from, x.to), n-(x.to-x.from), api.ErrProblem)
	}
}

// TestParseOther: what is read may be, but its text is another one.
func TestParseOther(t *testing.T) {
	lines := linesOf(spring)
	if lines[8] != "walk 0 1 3" || lines[9] != "walk 1 2 96" {
		t.Fatal(lines[8], lines[9])
	}
	for _, l := range [][]string{
		{"walk 0 1 0", "walk 1 2 96"}, {"walk 0 1 3", "walk 0 2 0", "walk 1 2 96"}, {"walk 0 1 3", "walk 1 2 0"}, {"walk 1 1 0"}, {"walk 2 2 0"},
		{"walk 0 1 3", "walk 0 1 3", "walk 1 2 96"}, {"walk 0 1 3", "walk 0 1 4"}, {"walk 0 1 3", "walk 0 1 0"}, {"walk 0 1 0", "walk 0 1 3"},
		{"walk 1 2 96", "walk 0 1 3"}, {"walk 0 2 1", "walk 0 1 3"}, {"walk 1 2 1", "walk 0 2 3"},
		{"walk 1 0 3", "walk 1 2 96"}, {"walk 1 0 3"}, {"walk 2 1 96"}, {"walk 0 1 3", "walk 1 0 3"}, {"walk 0 1 3", "walk 2 1 96"},
		{"walk 0 3 0"}, {"walk 3 4 0"}, {"walk -1 0 0"}, {"walk -1 -1 5"}, {"walk 0 9223372036854775807 0"}, {"walk 3 0 5"}, {"walk 0 -1 5"}, {"walk 0 24 5"},
	} {
		s := with(spring, 8, 10, l...)
		wantRefused(t, s, len(linesOf(s)), api.ErrProblem)
	}
	wantRefused(t, least+"walk 0 0 0\n", 3, api.ErrProblem)
	wantRefused(t, least+"walk 0 1 3\n", 3, api.ErrProblem)
	// What is told in another way has no form, or is another problem's text.
	wantRefused(t, with(spring, 8, 9, "walk 0 1 03"), 8, api.ErrForm)
	wantRefused(t, with(spring, 2, 3, "room h%61ll 120 5"), 2, api.ErrForm)
	wantRefused(t, with(spring, 7, 8, "shut 1,2 m 0+1"), 7, api.ErrForm)
	wantRefused(t, with(spring, 6, 7, "room lab%2btwo 1 1"), 6, api.ErrForm)
	for i := range 24 {
		s := textThat(sized(size{rooms: 24}, 0)) + fmt.Sprintf("walk %d %d 0\n", i, (i+1)%24)
		wantRefused(t, s, len(linesOf(s)), api.ErrProblem)
	}
}

// TestParseLines: each line of problems taken away, doubled, and put in another's place.
func TestParseLines(t *testing.T) {
	for _, s := range []string{spring, textThat(sized(size{3, 2, 4, 2, 3, 3}, 2))} {
		lines := linesOf(s)
		for i := range lines {
			wantThat(t, with(s, i, i+1))
			wantThat(t, with(s, i, i, lines[i]))
			for j := range lines {
				wantThat(t, with(s, i, i+1, lines[j]))
				wantThat(t, with(s, i, i, lines[j]))
			}
		}
	}
}

// TestParseWords: each word of a problem's text taken away, doubled, and others in its place.
func TestParseWords(t *testing.T) {
	for i, line := range linesOf(spring) {
		l := strings.Fields(line)
		for at := range l {
			wantThat(t, with(spring, i, i+1, strings.Join(slices.Delete(slices.Clone(l), at, at+1), " ")))
			wantThat(t, with(spring, i, i+1, strings.Join(slices.Insert(slices.Clone(l), at, l[at]), " ")))
			for _, w := range append([]string{"%", "0", "1", "2", "3", "-1", "96", "97", "65535", "65536", "1000", "1001", "10000", "10001", "hard", "meet", "mostload", "x", "m", "1-3", "0+1", "a%20b", "00", ""}, tooBig...) {
				wantThat(t, with(spring, i, i+1, put(line, at, w)))
				if i > 0 {
					wantThat(t, with(with(spring, i, i+1, put(line, at, w)), 0, 1, "problem spring 3 5 97"))
				}
			}
		}
	}
}

// P18.3

// TestBack: Parse of Print is the problem, Print of Parse the text.
func TestBack(t *testing.T) {
	for _, p := range problems() {
		s, err := paper.Print(p)
		if err != api.OK {
			t.Fatal(err)
		}
		wantParse(t, s, p)
		q, _, _ := paper.Parse(s)
		if !problem.Same(p, q) {
			t.Error("another problem comes back")
		}
		wantPrint(t, q, s)
	}
}

// TestByChance: problems and texts that are changed by chance.
func TestByChance(t *testing.T) {
	r := rand.New(rand.NewSource(18))
	all := problems()[1:]
	for range 3000 {
		p := copyOf(all[r.Intn(len(all))], 0)
		if len(p.Students) > 20 && r.Intn(10) > 0 {
			continue
		}
		var places []reflect.Value
		leaves(inside(&p), func(x reflect.Value) { places = append(places, x) })
		for range r.Intn(3) {
			change(places[r.Intn(len(places))])
		}
		s, err := paper.Print(p)
		if problem.Right(p) {
			wantPrint(t, p, textThat(p))
			wantParse(t, s, p)
		} else if s != "" || err != api.ErrProblem {
			t.Errorf("Print of what may not be is %q, %d", s, err)
		}
	}
	texts := []string{spring, textThat(sized(size{3, 3, 4, 2, 3, 5}, 3)), textThat(sized(size{2, 1, 2, 1, 2, 2}, 1)), least, with(spring, 0, 1, "problem spring 3 8 10")}
	for range 20000 {
		lines := linesOf(texts[r.Intn(len(texts))])
		for range 1 + r.Intn(3) {
			lines = shaken(r, lines)
		}
		wantThat(t, text(lines...))
	}
}

// shaken are the lines with one thing changed by chance.
func shaken(r *rand.Rand, lines []string) []string {
	if len(lines) == 0 {
		return []string{"room r 0 0"}
	}
	i, j := r.Intn(len(lines)), r.Intn(len(lines))
	l := strings.Split(lines[i], " ")
	at := r.Intn(len(l))
	words := []string{"0", "1", "2", "7", "-1", "97", "65536", "x", "%", "hard", "within", "1,3", "mt", "0+2", "9223372036854775808", "room", "walk", "time", "part"}
	switch r.Intn(6) {
	case 0:
		return slices.Delete(lines, i, i+1)
	case 1:
		return slices.Insert(lines, i, lines[j])
	case 2:
		lines[i], lines[j] = lines[j], lines[i]
	case 3:
		l[at] = words[r.Intn(len(words))]
		lines[i] = strings.Join(l, " ")
	case 4:
		lines[i] = strings.Join(slices.Delete(l, at, at+1), " ")
	case 5:
		lines[i] = strings.Join(slices.Insert(l, at, words[r.Intn(len(words))]), " ")
	}
	return lines
}

// TestNewMemory (R4): what is told of a text shares no row with what is told of it once more, and no two of its rows share memory.
func TestNewMemory(t *testing.T) {
	for _, s := range []string{spring, textThat(sized(size{3, 3, 4, 3, 3, 36}, 99))} {
		p, _, _ := paper.Parse(s)
		q, _, _ := paper.Parse(s)
		before := copyOf(q, 0)
		rows(inside(&p), func(x reflect.Value) {
			for i := range x.Len() {
				leaves(x.Index(i), change)
			}
			// Whatever stands behind a row's end is that row's alone.
			spare := x.Slice(0, x.Cap())
			for i := x.Len(); i < x.Cap(); i++ {
				leaves(spare.Index(i), change)
			}
		})
		if !same(q, before) {
			t.Error("two answers share memory")
		}
		rows(inside(&q), func(x reflect.Value) {
			spare := x.Slice(0, x.Cap())
			for i := x.Len(); i < x.Cap(); i++ {
				leaves(spare.Index(i), change)
			}
		})
		if !same(q, before) {
			t.Error("a row's spare room is another row's")
		}
		rows(inside(&q), func(x reflect.Value) {
			grown := reflect.Append(x, reflect.Zero(x.Type().Elem()))
			leaves(grown.Index(x.Len()), change)
		})
		if !same(q, before) {
			t.Error("what is put behind a row's end shows in another row")
		}
	}
}

// TestAgain (R6): the same answers come again, whatever was asked meanwhile.
func TestAgain(t *testing.T) {
	bad := with(spring, 5, 6, "room r 1")
	for range 50 {
		wantParse(t, spring, springs())
		wantRefused(t, bad, 5, api.ErrForm)
		wantPrint(t, springs(), spring)
		wantNone(t, api.Problem{})
		wantParse(t, least, leasts())
		wantPrint(t, leasts(), least)
	}
}

// TestOfVeryMany: texts of very many lines and words, of what may not be, end soon.
func TestOfVeryMany(t *testing.T) {
	const n = 200000
	var rooms, walks strings.Builder
	for i := range n {
		fmt.Fprintf(&rooms, "room r%d 0 0\n", i)
		fmt.Fprintf(&walks, "walk %d %d 1\n", i, i+1)
	}
	for _, s := range []string{
		rooms.String(),
		rooms.String() + walks.String(),
		walks.String(),
		strings.Repeat("person x\n", n),
		"person x\n" + strings.Repeat("away 1 m 0+1\n", n),
		"class c 0 0 -1\n" + strings.Repeat("time 0 1 m 0+1\n", n),
		"class c 0 0 -1\n" + strings.Repeat("place 0 0\n", n),
		"class c 0 0 -1" + strings.Repeat(" 0", n) + "\n",
		"course o\n" + strings.Repeat("way\n", n),
		"course o\nway\n" + strings.Repeat("part\n", n),
		"course o\nway\npart" + strings.Repeat(" 0", n) + "\n",
		"student s" + strings.Repeat(" 0", n) + "\n",
		strings.Repeat("student s\n", n),
		strings.Repeat("rule meet hard 0 0\n", n),
		"rule meet hard 0 0" + strings.Repeat(" 0", n) + "\n",
		"person " + strings.Repeat("x", n) + "\n",
		"person " + strings.Repeat("%20", n) + "\n",
	} {
		s = least + s
		wantShort(t, s, strings.Count(s, "\n"), api.ErrProblem)
		wantShort(t, s+"x\n", strings.Count(s, "\n"), api.ErrForm)
	}
	wantShort(t, strings.Repeat("\n", n), 0, api.ErrForm)
	wantShort(t, strings.Repeat("x ", n), 0, api.ErrForm)
	wantShort(t, least+strings.Repeat("problem p 1 5 10\n", n), 2, api.ErrForm)
	wantShort(t, least+"person "+strings.Repeat("9", n)+" 1\n", 2, api.ErrForm)
	wantShort(t, least+"student s "+strings.Repeat("9", n)+"\n", 2, api.ErrRange)
}

// wantShort is wantRefused, that tells no long text.
func wantShort(t *testing.T, text string, line int, why api.Errno) {
	t.Helper()
	if p, n, err := paper.Parse(text); !same(p, api.Problem{}) || n != line || err != why {
		t.Errorf("Parse of %q.. is %d, %d, want %d, %d", text[:min(len(text), 60)], n, err, line, why)
	}
}
