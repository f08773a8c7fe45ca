package problem

import (
	"slices"

	"horarium/api"
	"horarium/class"
	"horarium/course"
	"horarium/person"
	"horarium/room"
)

// wrong: the number of the first of n things that is not right, or is one more than most.
func wrong(n, most int, right func(i int) bool) int {
	for i := range n {
		if i == most || !right(i) {
			return i
		}
	}
	return none
}

// wrongNamed: as wrong, of things that have names, no two of them the same.
func wrongNamed[T any](l []T, most int, name func(T) string, right func(T) bool) int {
	return wrong(len(l), most, func(i int) bool {
		return right(l[i]) && find(l[:i], name, name(l[i])) == none
	})
}

func wrongRoom(p api.Problem) int {
	return wrongNamed(p.Rooms, api.MaxRooms, roomName, func(r api.Room) bool {
		return room.Right(p.Grid, r)
	})
}

func wrongPerson(p api.Problem) int {
	return wrongNamed(p.Persons, api.MaxPersons, personName, func(x api.Person) bool {
		return person.Right(p.Grid, x)
	})
}

func wrongClass(p api.Problem) int {
	return wrongNamed(p.Classes, api.MaxClasses, className, func(c api.Class) bool {
		return class.Right(p.Grid, len(p.Rooms), len(p.Persons), len(p.Classes), c)
	})
}

func wrongCourse(p api.Problem) int {
	return wrongNamed(p.Courses, api.MaxCourses, courseName, func(c api.Course) bool {
		return course.Right(len(p.Classes), c)
	})
}

func wrongStudent(p api.Problem) int {
	return wrongNamed(p.Students, api.MaxStudents, studentName, func(s api.Student) bool {
		return rightStudent(len(p.Courses), s)
	})
}

func wrongRule(p api.Problem) int {
	return wrong(len(p.Rules), api.MaxRules, func(i int) bool {
		return Rule(len(p.Classes), p.Rules[i])
	})
}

// rightStudent tells whether s may be, among so many courses.
func rightStudent(courses int, s api.Student) bool {
	return room.Name(s.Name) &&
		len(s.Courses) <= api.MaxTakes &&
		eachOnce(courses, s.Courses) &&
		slices.IsSorted(s.Courses)
}

// rightCost tells whether the Cost of r may be.
func rightCost(r api.Rule) bool {
	if r.Hard {
		return r.Cost == 0
	}
	return within(r.Cost, 1, api.MaxCost)
}

func rightWeigh(w api.Weigh) bool {
	for _, n := range [...]int{w.Time, w.Place, w.Rule, w.Clash} {
		if !within(n, 0, api.MaxCost) {
			return false
		}
	}
	return true
}

// eachOnce tells whether the numbers of l, which are few, are from 0 below so many, no two of them the same.
func eachOnce(below int, l []int) bool {
	for i, n := range l {
		if n < 0 || n >= below || slices.Contains(l[:i], n) {
			return false
		}
	}
	return true
}
