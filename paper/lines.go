package paper

import (
	"slices"
	"strings"

	"horarium/api"
	"horarium/clock"
	"horarium/digits"
	"horarium/pair"
)

// lineOf: the line of all the words of the rows.
func lineOf(rows ...[]string) string {
	return Line(slices.Concat(rows...))
}

// texts: the row of these words.
func texts(l ...string) []string {
	return l
}

// numbers: the words of these numbers.
func numbers(l ...int) []string {
	words := make([]string, 0, len(l))
	for _, n := range l {
		words = append(words, digits.Print(n))
	}
	return words
}

// when: the three words of a time of g.
func when(g api.Grid, w api.When) []string {
	return strings.Split(clock.Print(g, w), blank)
}

// linesOf: the lines of p, which may be.
func linesOf(p api.Problem) []string {
	g, w := p.Grid, p.Weigh
	return slices.Concat(
		texts(
			lineOf(texts(problemLine, p.Name), numbers(g.Weeks, g.Days, g.Slots)),
			lineOf(texts(weighLine), numbers(w.Time, w.Place, w.Rule, w.Clash)),
		),
		each(p.Rooms, func(r api.Room) []string { return roomLines(g, r) }),
		walkLines(p.Walk),
		each(p.Persons, func(x api.Person) []string { return personLines(g, x) }),
		each(p.Classes, func(c api.Class) []string { return classLines(g, c) }),
		each(p.Courses, courseLines),
		each(p.Students, studentLines),
		each(p.Rules, ruleLines),
	)
}

// each: the lines of all of l, one behind the other.
func each[T any](l []T, of func(T) []string) []string {
	var all []string
	for _, x := range l {
		all = append(all, of(x)...)
	}
	return all
}

func roomLines(g api.Grid, r api.Room) []string {
	all := texts(lineOf(texts(roomLine, r.Name), numbers(r.Seats, int(r.Gear))))
	for _, w := range r.Shut {
		all = append(all, lineOf(texts(shutLine), when(g, w)))
	}
	return all
}

// walkLines: a line of each two rooms between which there is something to walk.
func walkLines(walk [][]int) []string {
	var all []string
	for a, row := range walk {
		for b := a + 1; b < len(row); b++ {
			if row[b] != 0 {
				all = append(all, lineOf(texts(walkLine), numbers(a, b, row[b])))
			}
		}
	}
	return all
}

func personLines(g api.Grid, p api.Person) []string {
	all := texts(lineOf(texts(personLine, p.Name)))
	for _, w := range p.Away {
		all = append(all, lineOf(texts(awayLine), when(g, w)))
	}
	return all
}

func classLines(g api.Grid, c api.Class) []string {
	all := texts(lineOf(texts(classLine, c.Name), numbers(c.Seats, int(c.Gear), c.Over), numbers(c.Persons...)))
	for _, t := range c.Times {
		all = append(all, lineOf(texts(timeLine), numbers(t.Cost), when(g, t.When)))
	}
	for _, p := range c.Places {
		all = append(all, lineOf(texts(placeLine), numbers(p.Cost, p.Room)))
	}
	return all
}

func courseLines(c api.Course) []string {
	all := texts(lineOf(texts(courseLine, c.Name)))
	for _, w := range c.Ways {
		all = append(all, lineOf(texts(wayLine)))
		for _, part := range w.Parts {
			all = append(all, lineOf(texts(partLine), numbers(part...)))
		}
	}
	return all
}

func studentLines(s api.Student) []string {
	return texts(lineOf(texts(studentLine, s.Name), numbers(s.Courses...)))
}

func ruleLines(r api.Rule) []string {
	cost := digits.Print(r.Cost)
	if r.Hard {
		cost = hard
	}
	return texts(lineOf(texts(ruleLine, pair.Name(r.Kind), cost), numbers(r.A, r.B), numbers(r.Classes...)))
}
