package problem

import (
	"slices"

	"horarium/api"
)

// copyEach: a copy of each of l, in a row of their own.
func copyEach[T any](l []T, copyOf func(T) T) []T {
	copies := make([]T, 0, len(l))
	for _, x := range l {
		copies = append(copies, copyOf(x))
	}
	return copies
}

func copyRoom(r api.Room) api.Room {
	r.Shut = slices.Clone(r.Shut)
	return r
}

func copyPerson(p api.Person) api.Person {
	p.Away = slices.Clone(p.Away)
	return p
}

func copyClass(c api.Class) api.Class {
	c.Persons = slices.Clone(c.Persons)
	c.Times = slices.Clone(c.Times)
	c.Places = slices.Clone(c.Places)
	return c
}

func copyCourse(c api.Course) api.Course {
	c.Ways = copyEach(c.Ways, copyWay)
	return c
}

func copyWay(w api.Way) api.Way {
	w.Parts = copyEach(w.Parts, slices.Clone[[]int])
	return w
}

func copyStudent(s api.Student) api.Student {
	s.Courses = slices.Clone(s.Courses)
	return s
}

func copyRule(r api.Rule) api.Rule {
	r.Classes = slices.Clone(r.Classes)
	return r
}
