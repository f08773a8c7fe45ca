package paper

import (
	"horarium/api"
	"horarium/word"
)

// reader has what the lines told that were read so far.
type reader struct {
	p     api.Problem
	walks []walk
	ahead string // the first word of the line ahead
}

// walk is what a line tells of two rooms.
type walk struct{ a, b, slots int }

// read takes in the line of that number; a wrong, if it is none.
func (r *reader) read(number int, text string) error {
	l, _, err := word.Split(text)
	if err != api.OK || len(l) == 0 || !follows(r.ahead, l[0]) {
		return wrong{number, api.ErrForm}
	}
	r.ahead = l[0]
	w := words{left: l[1:]}
	r.take(l[0], &w)
	if why := w.end(); why != api.OK {
		return wrong{number, why}
	}
	return nil
}

// follows tells whether a line of the first word first may stand right behind one of the first word ahead (empty: there is none ahead).
func follows(ahead, first string) bool {
	switch first {
	case problemLine:
		return ahead == ""
	case weighLine:
		return ahead == problemLine
	case shutLine:
		return ahead == roomLine || ahead == shutLine
	case awayLine:
		return ahead == personLine || ahead == awayLine
	case timeLine:
		return ahead == classLine || ahead == timeLine
	case placeLine:
		return ahead == classLine || ahead == timeLine || ahead == placeLine
	case wayLine:
		return ahead == courseLine || ahead == wayLine || ahead == partLine
	case partLine:
		return ahead == wayLine || ahead == partLine
	}
	return rank(ahead) > 0 && rank(ahead) <= rank(first)
}

// rank: how far down the table that part of it is whose lines have such a first word; 0 of problem, which weigh alone follows, and of a word that is none of the table's.
func rank(first string) int {
	switch first {
	case weighLine:
		return 1
	case roomLine, shutLine:
		return 2
	case walkLine:
		return 3
	case personLine, awayLine:
		return 4
	case classLine, timeLine, placeLine:
		return 5
	case courseLine, wayLine, partLine:
		return 6
	case studentLine:
		return 7
	case ruleLine:
		return 8
	}
	return 0
}

// take takes in the words of a line of that first word, which stands where it may.
func (r *reader) take(first string, w *words) {
	p := &r.p
	switch first {
	case problemLine:
		p.Name = w.text()
		p.Grid = api.Grid{Weeks: w.number(), Days: w.number(), Slots: w.number()}
	case weighLine:
		p.Weigh = api.Weigh{Time: w.number(), Place: w.number(), Rule: w.number(), Clash: w.number()}
	case roomLine:
		p.Rooms = append(p.Rooms, api.Room{Name: w.text(), Seats: w.number(), Gear: w.gear()})
	case shutLine:
		x := last(p.Rooms)
		x.Shut = append(x.Shut, w.when(p.Grid))
	case walkLine:
		r.walks = append(r.walks, walk{w.number(), w.number(), w.number()})
	case personLine:
		p.Persons = append(p.Persons, api.Person{Name: w.text()})
	case awayLine:
		x := last(p.Persons)
		x.Away = append(x.Away, w.when(p.Grid))
	case classLine:
		p.Classes = append(p.Classes, api.Class{Name: w.text(), Seats: w.number(), Gear: w.gear(), Over: w.number(), Persons: w.numbers()})
	case timeLine:
		x := last(p.Classes)
		x.Times = append(x.Times, api.Time{Cost: w.number(), When: w.when(p.Grid)})
	case placeLine:
		x := last(p.Classes)
		x.Places = append(x.Places, api.Place{Cost: w.number(), Room: w.number()})
	case courseLine:
		p.Courses = append(p.Courses, api.Course{Name: w.text()})
	case wayLine:
		x := last(p.Courses)
		x.Ways = append(x.Ways, api.Way{})
	case partLine:
		x := last(last(p.Courses).Ways)
		x.Parts = append(x.Parts, w.numbers())
	case studentLine:
		p.Students = append(p.Students, api.Student{Name: w.text(), Courses: w.numbers()})
	case ruleLine:
		p.Rules = append(p.Rules, w.rule())
	}
}

// last: the last one of l, which has one.
func last[T any](l []T) *T {
	return &l[len(l)-1]
}

// whole: the problem that was told, with the walks between all its rooms.
func (r *reader) whole() api.Problem {
	p := r.p
	// Of more rooms there is no problem that may be, and their walks could be very many.
	if len(p.Rooms) > api.MaxRooms {
		return p
	}
	p.Walk = make([][]int, len(p.Rooms))
	for i := range p.Walk {
		p.Walk[i] = make([]int, len(p.Rooms))
	}
	for _, x := range r.walks {
		// What is left out here Print does not tell either, so the text is told to be another one.
		if isRoom(p, x.a) && isRoom(p, x.b) {
			p.Walk[x.a][x.b] = x.slots
			p.Walk[x.b][x.a] = x.slots
		}
	}
	return p
}

// isRoom tells whether p has a room of the number n.
func isRoom(p api.Problem, n int) bool {
	return n >= 0 && n < len(p.Rooms)
}
