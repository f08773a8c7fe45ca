package course_test

import (
	"math"
	"math/big"
	"math/rand"
	"slices"
	"strings"
	"testing"

	"horarium/api"
	"horarium/course"
)

// wild are numbers over the int's whole range, none of them that of a class; those among them that are about 2^32 look well if they are cut short.
func wild() []int {
	return []int{math.MinInt, math.MinInt + 1, math.MinInt32, -1 << 32, -1<<32 + 1, -97, -40, -2, -1, 1 << 16, math.MaxInt32, 1 << 32, 1<<32 + 1, 1<<62 + 1, math.MaxInt - 1, math.MaxInt}
}

func parts(rows ...[]int) api.Way { return api.Way{Parts: rows} }

func named(name string, ways ...api.Way) api.Course { return api.Course{Name: name, Ways: ways} }

func of(ways ...api.Way) api.Course { return named("c", ways...) }

func row(classes ...int) []int { return classes }

// run are n numbers, from first on.
func run(first, n int) []int {
	var out []int
	for i := range n {
		out = append(out, first+i)
	}
	return out
}

// wayOf has Parts of so many classes each, from first on.
func wayOf(first int, sizes ...int) api.Way {
	var w api.Way
	for _, n := range sizes {
		w.Parts = append(w.Parts, run(first, n))
		first += n
	}
	return w
}

// ones are n Parts of one class each.
func ones(n int) api.Way { return wayOf(0, slices.Repeat([]int{1}, n)...) }

// alike are n Ways, each of so many Parts, each of so many classes.
func alike(n, parts, classes int) []api.Way {
	var out []api.Way
	for i := range n {
		out = append(out, wayOf(i, slices.Repeat([]int{classes}, parts)...))
	}
	return out
}

// good may be among 40 classes, as wide as a course can be.
func good() api.Course { return named("good", alike(4, 4, 8)...) }

// small may be among 9 classes; its Ways share some of theirs.
func small() api.Course {
	return named("small", parts(row(0, 1), row(2, 3)), parts(row(4, 8), row(0), row(1, 5, 7)), parts(row(2)))
}

// copyOf is c in new memory, without room to spare.
func copyOf(c api.Course) api.Course {
	out := api.Course{Name: c.Name}
	for _, w := range c.Ways {
		var way api.Way
		for _, part := range w.Parts {
			way.Parts = append(way.Parts, slices.Clone(part))
		}
		out.Ways = append(out.Ways, way)
	}
	return out
}

// but is c in new memory, changed.
func but(c api.Course, change func(*api.Course)) api.Course {
	out := copyOf(c)
	change(&out)
	return out
}

// odd are courses that may not be, in many ways, and that are looked at as they stand all the same.
func odd() []api.Course {
	low, high := math.MinInt, math.MaxInt
	return []api.Course{
		{}, {Name: "c"}, named("c", []api.Way{}...), {Name: strings.Repeat("\xff", 25), Ways: alike(1, 2, 2)},
		of(api.Way{}), of(parts([][]int{}...)), of(parts(nil)), of(parts(row())), of(parts(nil, row(), nil), api.Way{}, parts(row(), row(4))),
		of(alike(5, 1, 1)...), of(alike(60, 2, 2)...), of(ones(5)), of(ones(70)), of(wayOf(0, 9)), of(wayOf(0, 50, 60)),
		of(parts(row(3, 1, 2, 1))), of(parts(row(3, 3), row(3), row(2, 3))), of(parts(row(1), row(2, 1)), parts(row(0), nil)),
		of(parts(row(low, -1, high), row(high, low, 0)), parts(row(-2, -3), row(low+1, high-1, -2))),
		of(parts(row(-1))), of(parts(row(0), row(40))), of(parts(row(1<<32, 1, 0))), of(parts(row(5), row()), parts(row(4), row(6, 2))),
	}
}

// courses are some that may be among 40 classes, and some that may not.
func courses() []api.Course {
	out := []api.Course{
		good(), small(), of(ones(1)), of(ones(2)), of(ones(3)), of(ones(4)), of(wayOf(39, 1)), of(wayOf(32, 8)), of(wayOf(0, 2, 2)), of(wayOf(3, 1, 2, 3, 4)),
		of(parts(row(2, 5), row(0, 9)), parts(row(0, 9), row(2, 5)), parts(row(2, 5), row(0, 9))), of(parts(row(30, 39), row(0, 20), row(10))),
	}
	return append(out, odd()...)
}

// withOvers are classes of these Overs, and of nothing else.
func withOvers(overs ...int) []api.Class {
	var out []api.Class
	for _, over := range overs {
		out = append(out, api.Class{Over: over})
	}
	return out
}

// plain are n classes without an Over.
func plain(n int) []api.Class { return withOvers(slices.Repeat([]int{-1}, n)...) }

// bound are the 40 classes of which these have an Over: each first one of two the second one.
func bound(pairs ...int) []api.Class {
	out := plain(40)
	for i := 0; i < len(pairs); i += 2 {
		out[pairs[i]].Over = pairs[i+1]
	}
	return out
}

// each are all rows of n of these numbers, the first one's number changing last.
func each(n int, numbers ...int) [][]int {
	out := [][]int{nil}
	for range n {
		var longer [][]int
		for _, r := range out {
			for _, number := range numbers {
				longer = append(longer, append(slices.Clone(r), number))
			}
		}
		out = longer
	}
	return out
}

// upTo are all rows of at most n of these numbers.
func upTo(n int, numbers ...int) [][]int {
	var out [][]int
	for i := range n + 1 {
		out = append(out, each(i, numbers...)...)
	}
	return out
}

// The chapter's words once more, by means of their own

func isWay(classes int, w api.Way) bool {
	met := map[int]bool{}
	for _, part := range w.Parts {
		for i, class := range part {
			if met[class] || class < 0 || class >= classes || i > 0 && part[i-1] > class {
				return false
			}
			met[class] = true
		}
		if len(part) == 0 || len(part) > 8 {
			return false
		}
	}
	return len(w.Parts) > 0 && len(w.Parts) < 5
}

func isCourse(classes int, c api.Course) bool {
	wrong := 0
	for _, w := range c.Ways {
		if !isWay(classes, w) {
			wrong++
		}
	}
	return wrong == 0 && c.Name != "" && len(c.Name) < 25 && len(c.Ways) > 0 && len(c.Ways) < 5
}

// loadsOf are the loads of a Way, told by numbers of as many digits as it has Parts: in place of each digit one of its Part's classes.
func loadsOf(w api.Way) [][]int {
	all := 1
	for _, part := range w.Parts {
		all *= len(part)
	}
	var out [][]int
	for number := range all {
		load := make([]int, len(w.Parts))
		for i := len(load) - 1; i >= 0; i-- {
			load[i] = w.Parts[i][number%len(w.Parts[i])]
			number /= len(w.Parts[i])
		}
		out = append(out, load)
	}
	return out
}

// isTogether asks of each class of the Way whether it is missing, and whom that concerns.
func isTogether(l []api.Class, w api.Way, load []int) bool {
	has := map[int]bool{}
	for _, class := range load {
		has[class] = true
	}
	for _, part := range w.Parts {
		for _, over := range part {
			for _, class := range load {
				if !has[over] && l[class].Over == over {
					return false
				}
			}
		}
	}
	return true
}

func loadsThat(l []api.Class, c api.Course) [][]int {
	if !isCourse(len(l), c) {
		return nil
	}
	var out [][]int
	for _, w := range c.Ways {
		for _, load := range loadsOf(w) {
			if isTogether(l, w, load) {
				out = append(out, load)
			}
		}
	}
	return out
}

// countThat is reckoned without bounds.
func countThat(c api.Course) int {
	sum := new(big.Int)
	for _, w := range c.Ways {
		product := big.NewInt(1)
		for _, part := range w.Parts {
			product.Mul(product, big.NewInt(int64(len(part))))
		}
		sum.Add(sum, product)
	}
	if sum.Cmp(big.NewInt(65536)) > 0 {
		return 65536
	}
	return int(sum.Int64())
}

func classesThat(c api.Course) []int {
	met := map[int]bool{}
	var out []int
	for _, w := range c.Ways {
		for _, class := range slices.Concat(w.Parts...) {
			if !met[class] {
				out = append(out, class)
			}
			met[class] = true
		}
	}
	slices.Sort(out)
	return out
}

// aboveThat: the row grows by the Over of its last one, as long as that may stand in it.
func aboveThat(l []api.Class, class int) []int {
	line := row(class)
	for {
		last := line[len(line)-1]
		if last < 0 || last >= len(l) {
			return line[1:max(len(line)-1, 1)]
		}
		if over := l[last].Over; !slices.Contains(line, over) {
			line = append(line, over)
		} else {
			return line[1:]
		}
	}
}

// sameRows is not by the rows' own sameness: a nil row and an empty one are the same.
func sameRows(a, b [][]int) bool {
	if len(a) != len(b) {
		return false
	}
	for i := range a {
		if len(a[i]) != len(b[i]) {
			return false
		}
		for j := range a[i] {
			if a[i][j] != b[i][j] {
				return false
			}
		}
	}
	return true
}

func sameCourse(a, b api.Course) bool {
	if a.Name != b.Name || len(a.Ways) != len(b.Ways) {
		return false
	}
	for i := range a.Ways {
		if !sameRows(a.Ways[i].Parts, b.Ways[i].Parts) {
			return false
		}
	}
	return true
}

// What is wanted

func wantRight(t *testing.T, classes int, c api.Course, want bool) {
	t.Helper()
	if got := course.Right(classes, c); got != want {
		t.Errorf("Right(%d, %v) = %v", classes, c, got)
	}
}

func wantAbove(t *testing.T, l []api.Class, class int, want ...int) {
	t.Helper()
	if got := course.Above(l, class); !slices.Equal(got, want) {
		t.Errorf("Above of %d is %v, want %v", class, got, want)
	}
}

func wantLoads(t *testing.T, l []api.Class, c api.Course, want ...[]int) {
	t.Helper()
	if got := course.Loads(l, c); !sameRows(got, want) {
		t.Errorf("of %v: Loads are %v, want %v", c, got, want)
	}
}

func wantTakes(t *testing.T, l []api.Class, c api.Course, load []int, want bool) {
	t.Helper()
	if got := course.Takes(l, c, load); got != want {
		t.Errorf("of %v: Takes(%v) = %v", c, load, got)
	}
}

func wantCount(t *testing.T, c api.Course, want int) {
	t.Helper()
	if got := course.Count(c); got != want {
		t.Errorf("of %d Ways: Count = %d, want %d", len(c.Ways), got, want)
	}
}

func wantClasses(t *testing.T, c api.Course, want ...int) {
	t.Helper()
	if got := course.Classes(c); !slices.Equal(got, want) {
		t.Errorf("of %v: Classes are %v, want %v", c, got, want)
	}
}

// wantSame: both ways round.
func wantSame(t *testing.T, a, b api.Course, want bool) {
	t.Helper()
	if course.Same(a, b) != want || course.Same(b, a) != want {
		t.Errorf("Same of %v and %v is %v, and the other way round %v", a, b, course.Same(a, b), course.Same(b, a))
	}
}

// wantHeld: Loads are those that hold together, and Takes takes these, and no other load of the Ways.
func wantHeld(t *testing.T, l []api.Class, c api.Course) {
	t.Helper()
	want := loadsThat(l, c)
	wantLoads(t, l, c, want...)
	for _, w := range c.Ways {
		for _, load := range loadsOf(w) {
			held := slices.ContainsFunc(want, func(x []int) bool { return slices.Equal(x, load) })
			wantTakes(t, l, c, load, held)
		}
	}
}

// The chapter's example

func TestExample(t *testing.T) {
	c, l := of(parts(row(0, 1), row(2, 3))), withOvers(-1, -1, 0, 1)
	wantLoads(t, l, c, row(0, 2), row(1, 3))
	wantTakes(t, l, c, row(0, 2), true)
	wantTakes(t, l, c, row(1, 3), true)
	wantTakes(t, l, c, row(0, 3), false)
	wantTakes(t, l, c, row(1, 2), false)
	wantCount(t, c, 4)
}

// P14.1: Right

func TestRight(t *testing.T) {
	wantRight(t, 40, good(), true)
	wantRight(t, 9, small(), true)
	wantRight(t, 8, small(), false)
	wantRight(t, 1, of(ones(1)), true)
	for _, c := range odd() {
		wantRight(t, 40, c, false)
	}
}

// TestRightName: bytes are counted, whatever they are; neither letters nor runes.
func TestRightName(t *testing.T) {
	called := func(s string) api.Course { return named(s, wayOf(0, 2)) }
	for b := range 256 {
		for n := range 40 {
			wantRight(t, 40, called(strings.Repeat(string([]byte{byte(b)}), n)), n >= 1 && n <= 24)
		}
	}
	for _, letter := range []string{"\u00e9", "\u20ac", "\U0001f600", "\xe2\x82", "a\u0301"} {
		for n := range 30 {
			wantRight(t, 40, called(strings.Repeat(letter, n)), n >= 1 && n*len(letter) <= 24)
		}
	}
	for _, n := range []int{256, 257, 280, 1 << 16, 1<<16 + 24} {
		wantRight(t, 40, called(strings.Repeat("a", n)), false)
	}
}

func TestRightWays(t *testing.T) {
	for n := range 30 {
		for _, classes := range []int{1, 2} {
			wantRight(t, 40, of(alike(n, 2, classes)...), n >= 1 && n <= 4)
		}
	}
	wantRight(t, 40, of(slices.Repeat([]api.Way{ones(1)}, 4)...), true)
	wantRight(t, 40, of(slices.Repeat([]api.Way{ones(1)}, 5)...), false)
	wantRight(t, 40, of(slices.Repeat([]api.Way{ones(1)}, 260)...), false)
	wantRight(t, 40, of(), false)
	wantRight(t, 40, of([]api.Way{}...), false)
}

// inEachWay puts w into each place of each number of Ways.
func inEachWay(w api.Way, look func(c api.Course)) {
	for n := 1; n <= 4; n++ {
		for i := range n {
			c := of(alike(n, 2, 3)...)
			c.Ways[i] = w
			look(c)
		}
	}
}

// inEachPart puts a Part into each place of each number of Parts, of each place of each number of Ways; the other Parts have none of its classes.
func inEachPart(part []int, look func(c api.Course)) {
	for n := 1; n <= 4; n++ {
		for i := range n {
			w := wayOf(20, slices.Repeat([]int{2}, n)...)
			w.Parts[i] = part
			inEachWay(w, look)
		}
	}
}

func TestRightParts(t *testing.T) {
	for _, n := range []int{0, 1, 2, 3, 4, 5, 6, 36, 40} {
		inEachWay(ones(n), func(c api.Course) { wantRight(t, 40, c, n >= 1 && n <= 4) })
	}
	inEachWay(ones(260), func(c api.Course) { wantRight(t, 300, c, false) })
	inEachWay(parts([][]int{}...), func(c api.Course) { wantRight(t, 40, c, false) })
}

func TestRightSections(t *testing.T) {
	for _, n := range []int{0, 1, 2, 3, 7, 8, 9, 10, 16, 20} {
		inEachPart(run(0, n), func(c api.Course) { wantRight(t, 40, c, n >= 1 && n <= 8) })
	}
	inEachPart(row(), func(c api.Course) { wantRight(t, 40, c, false) })
	inEachPart(run(100, 260), func(c api.Course) { wantRight(t, 400, c, false) })
}

// TestRightRising: each two that stand in the wrong order, or are the same, at each place of a Part.
func TestRightRising(t *testing.T) {
	for _, n := range []int{2, 3, 8} {
		for i := range n {
			for j := range n {
				part := run(5, n)
				part[i], part[j] = part[j], part[i]
				inEachPart(part, func(c api.Course) { wantRight(t, 40, c, i == j) })
				part = run(5, n)
				part[i] = part[j]
				inEachPart(part, func(c api.Course) { wantRight(t, 40, c, i == j) })
			}
		}
	}
	wantRight(t, 40, of(parts(row(0, 7, 8, 20, 39))), true)
	wantRight(t, 40, of(parts(row(0, 7, 20, 8, 39))), false)
	wantRight(t, 40, of(parts(row(39, 0))), false)
	wantRight(t, 40, of(parts(row(0, 0))), false)
}

// TestRightByOneClass: one alone, wherever it stands, is none of the classes.
func TestRightByOneClass(t *testing.T) {
	for _, class := range append(wild(), 40, 41) {
		for _, n := range []int{1, 2, 8} {
			for i := range n {
				part := run(5, n)
				part[i] = class
				inEachPart(part, func(c api.Course) { wantRight(t, 40, c, false) })
			}
		}
		inEachPart(slices.Concat(row(class), run(5, 3)), func(c api.Course) { wantRight(t, 40, c, false) })
		inEachPart(slices.Concat(run(5, 3), row(class)), func(c api.Course) { wantRight(t, 40, c, false) })
	}
}

func TestRightAmong(t *testing.T) {
	for classes := -3; classes < 45; classes++ {
		for class := -2; class < 46; class++ {
			for _, c := range []api.Course{of(parts(row(class))), of(parts(row(class)), parts(row(class))), of(ones(1), parts(row(class)))} {
				wantRight(t, classes, c, 0 <= class && class < classes)
			}
			wantRight(t, classes, of(parts(row(0, class))), 0 < class && class < classes)
			wantRight(t, classes, of(parts(row(0), row(class))), 0 < class && class < classes)
		}
	}
}

// TestRightAmongWildNumbers: as many classes as an int can tell, and as few; their numbers too.
func TestRightAmongWildNumbers(t *testing.T) {
	list := append(wild(), 0, 1, 2, 39, 40)
	for _, classes := range list {
		for _, class := range list {
			wantRight(t, classes, of(parts(row(class))), 0 <= class && class < classes)
			wantRight(t, classes, of(parts(row(0), row(class))), 0 < class && class < classes)
			for _, other := range list {
				c := of(parts(row(class, other)))
				wantRight(t, classes, c, isCourse(classes, c))
				c = of(parts(row(class), row(other)))
				wantRight(t, classes, c, isCourse(classes, c))
			}
		}
	}
}

// TestRightByTwoParts: one class stands in two Parts of a Way, next to each other or far from each other, first, between or last in them.
func TestRightByTwoParts(t *testing.T) {
	for a := range 4 {
		for b := range 4 {
			for i := range 3 {
				for j := range 3 {
					w := parts(row(0, 10, 20), row(1, 11, 21), row(2, 12, 22), row(3, 13, 23))
					w.Parts[b][j] = w.Parts[a][i]
					slices.Sort(w.Parts[b])
					want := a == b && i == j
					inEachWay(w, func(c api.Course) { wantRight(t, 40, c, want) })
				}
			}
		}
	}
	wantRight(t, 40, of(parts(row(0, 1), row(0, 1))), false)
	wantRight(t, 40, of(parts(row(4), row(4))), false)
}

// TestRightByTwoWays: one class may stand in as many Ways as there are.
func TestRightByTwoWays(t *testing.T) {
	w := parts(row(0, 3), row(1, 2))
	wantRight(t, 4, of(w, w), true)
	wantRight(t, 4, of(w, parts(row(1, 2), row(0, 3)), parts(row(0, 1, 2, 3)), parts(row(3), row(2), row(1), row(0))), true)
	wantRight(t, 4, of(w, parts(row(1, 2), row(0, 2))), false)
	wantRight(t, 4, of(parts(row(1, 2), row(0, 2)), w), false)
}

// TestRightOfEach: each Way of up to three Parts of up to two of a few numbers, among each few classes.
func TestRightOfEach(t *testing.T) {
	rows := upTo(2, -1, 0, 1, 2)
	for _, a := range rows {
		for _, b := range rows {
			for classes := -1; classes <= 4; classes++ {
				for _, c := range []api.Course{of(parts(a)), of(parts(a, b)), of(parts(a), parts(b)), of(parts(a, row(3), b)), of(parts(a, b, row(0)))} {
					if got := course.Right(classes, c); got != isCourse(classes, c) {
						t.Fatalf("Right(%d, %v) = %v", classes, c, got)
					}
				}
			}
		}
	}
}

// chanced is a course by chance, of numbers from 0 to 8; most of them may be among 9 classes.
func chanced(chance *rand.Rand) api.Course {
	c := api.Course{Name: "c"}
	for range 1 + chance.Intn(3) {
		var w api.Way
		free := chance.Perm(9)
		for range 1 + chance.Intn(3) {
			n := min(1+chance.Intn(3), len(free))
			part := slices.Clone(free[:n])
			free = free[n:]
			if chance.Intn(40) > 0 {
				slices.Sort(part)
			}
			if chance.Intn(40) == 0 {
				part = append(part, 8)
			}
			w.Parts = append(w.Parts, part)
		}
		c.Ways = append(c.Ways, w)
	}
	return c
}

func TestRightOfSome(t *testing.T) {
	chance := rand.New(rand.NewSource(1))
	may := 0
	for range 20000 {
		c, classes := chanced(chance), 6+chance.Intn(4)
		want := isCourse(classes, c)
		if want {
			may++
		}
		wantRight(t, classes, c, want)
	}
	if may < 3000 || may > 17000 {
		t.Errorf("%d of 20000 may be: they tell little", may)
	}
}

// P14.1: Classes

func TestClasses(t *testing.T) {
	wantClasses(t, api.Course{})
	wantClasses(t, of([]api.Way{}...))
	wantClasses(t, of(api.Way{}))
	wantClasses(t, of(parts([][]int{}...), api.Way{}))
	wantClasses(t, of(parts(nil), parts(row(), nil)))
	wantClasses(t, of(parts(row(4))), 4)
	wantClasses(t, of(parts(row(4, 4))), 4)
	wantClasses(t, of(parts(row(4, 0, 4, 0, 7))), 0, 4, 7)
	wantClasses(t, of(parts(row(9), row(3, 8)), parts(row(0, 9), row(8)), parts(nil, row(1))), 0, 1, 3, 8, 9)
	wantClasses(t, of(api.Way{}, parts(row(), row(2)), parts(row(1), row())), 1, 2)
	wantClasses(t, of(parts(row(math.MaxInt, -1), row(0, math.MinInt)), parts(row(-1, 1<<32, math.MaxInt))), math.MinInt, -1, 0, 1<<32, math.MaxInt)
	wantClasses(t, named("", parts(row(2), row(1))), 1, 2)
	wantClasses(t, good(), run(0, 35)...)
	wantClasses(t, small(), 0, 1, 2, 3, 4, 5, 7, 8)
}

// TestClassesOfAll: they rise, each is there once, and they are those that stand there.
func TestClassesOfAll(t *testing.T) {
	for _, c := range courses() {
		wantClasses(t, c, classesThat(c)...)
		got := course.Classes(c)
		for i := 1; i < len(got); i++ {
			if got[i-1] >= got[i] {
				t.Errorf("of %v: Classes are %v", c, got)
			}
		}
	}
	chance := rand.New(rand.NewSource(2))
	for range 2000 {
		c := chanced(chance)
		wantClasses(t, c, classesThat(c)...)
	}
}

// TestClassesByPlace: a class that stands at one place alone, wherever that is, is told.
func TestClassesByPlace(t *testing.T) {
	for way := range 5 {
		for part := range 5 {
			for i := range 9 {
				c := of(alike(5, 5, 9)...)
				for _, w := range c.Ways {
					for _, p := range w.Parts {
						clear(p)
					}
				}
				c.Ways[way].Parts[part][i] = -7
				wantClasses(t, c, -7, 0)
			}
		}
	}
}

// TestClassesOfMany: far more than may be.
func TestClassesOfMany(t *testing.T) {
	down := run(0, 100000)
	slices.Reverse(down)
	wantClasses(t, of(parts(down, down), parts(down)), run(0, 100000)...)
	wantClasses(t, of(ones(20000)), run(0, 20000)...)
}

// P14.1: Count

// lots are n classes, whatever they are.
func lots(n int) []int { return make([]int, n) }

func TestCount(t *testing.T) {
	wantCount(t, api.Course{}, 0)
	wantCount(t, of([]api.Way{}...), 0)
	wantCount(t, of(api.Way{}), 1)
	wantCount(t, of(parts([][]int{}...)), 1)
	wantCount(t, of(api.Way{}, api.Way{}, api.Way{}), 3)
	wantCount(t, of(parts(nil)), 0)
	wantCount(t, of(parts(row())), 0)
	wantCount(t, of(parts(row(), row(1, 2))), 0)
	wantCount(t, of(parts(row(1, 2), row())), 0)
	wantCount(t, of(parts(row(1, 2), nil, row(3))), 0)
	wantCount(t, of(parts(row(1, 2), row()), api.Way{}, parts(row(5, 6, 7))), 4)
	wantCount(t, of(ones(1)), 1)
	wantCount(t, of(ones(4)), 1)
	wantCount(t, of(wayOf(0, 2, 3, 4)), 24)
	wantCount(t, small(), 11)
	wantCount(t, good(), 16384)
	wantCount(t, of(alike(5, 4, 8)...), 20480)
	wantCount(t, named("", wayOf(-9, 2, 2)), 4)
}

// TestCountAsItStands: two places of a Part are two, and two Ways are two, whatever stands in them.
func TestCountAsItStands(t *testing.T) {
	wantCount(t, of(parts(row(3, 3), row(3, 3, 3))), 6)
	wantCount(t, of(ones(2), ones(2)), 2)
	wantCount(t, of(parts(row(math.MinInt, math.MaxInt), row(-1))), 2)
}

// sized is a Way of Parts of so many classes each, one of them whatever it is.
func sized(sizes ...int) api.Way {
	var w api.Way
	for _, n := range sizes {
		w.Parts = append(w.Parts, lots(n))
	}
	return w
}

func TestCountAtMost(t *testing.T) {
	const most = 65536
	for n := most - 3; n <= most+3; n++ {
		want := min(n, most)
		wantCount(t, of(sized(n)), want)
		wantCount(t, of(sized(1, n, 1)), want)
		wantCount(t, of(sized(n-1), sized(1)), want)
		wantCount(t, of(sized(1), sized(n-1)), want)
		wantCount(t, of(api.Way{}, sized(n-1)), want)
		wantCount(t, of(sized(n-30000), sized(0), sized(10000, 3)), want)
		wantCount(t, of(slices.Repeat([]api.Way{sized(1)}, n)...), want)
	}
	wantCount(t, of(sized(256, 256)), most)
	wantCount(t, of(sized(255, 257)), 65535)
	wantCount(t, of(sized(257, 256)), most)
	wantCount(t, of(sized(2, 32768)), most)
	wantCount(t, of(sized(32767, 2)), 65534)
	wantCount(t, of(sized(32767, 2), sized(1)), 65535)
	wantCount(t, of(sized(32767, 2), sized(1), sized(1)), most)
	wantCount(t, of(sized(32767, 2), sized(1), sized(1), sized(1)), most)
	wantCount(t, of(sized(3, 21845)), 65535)
	wantCount(t, of(sized(3, 21846)), most)
	wantCount(t, of(sized(most, most), sized(most)), most)
	wantCount(t, of(sized(1<<20), sized(1<<20, 1<<20)), most)
}

// TestCountBeyondTheInt: products, and sums, that no int is.
func TestCountBeyondTheInt(t *testing.T) {
	for _, n := range []int{15, 16, 17, 62, 63, 64, 65, 70, 5000} {
		wantCount(t, of(sized(slices.Repeat([]int{2}, n)...)), min(1<<min(n, 16), 65536))
	}
	big := lots(1 << 16)
	wide := parts(slices.Repeat([][]int{big}, 9)...)
	for n := range 10 {
		wantCount(t, of(parts(wide.Parts[:n]...)), min(1<<(16*min(n, 1)), 65536))
		wantCount(t, of(slices.Repeat([]api.Way{wide}, n)...), min(n, 1)*65536)
	}
	wantCount(t, of(sized(3, 3, 1<<20, 1<<20, 1<<20)), 65536)
}

// TestCountOfNoneBehindMany: a Part without classes takes all loads of its Way away, and of that Way alone.
func TestCountOfNoneBehindMany(t *testing.T) {
	for i := range 6 {
		w := sized(slices.Repeat([]int{1 << 16}, 6)...)
		wantCount(t, of(w), 65536)
		w.Parts[i] = nil
		wantCount(t, of(w), 0)
		w.Parts[i] = row()
		wantCount(t, of(w), 0)
		wantCount(t, of(w, sized(5)), 5)
		wantCount(t, of(sized(5), w, api.Way{}), 6)
		wantCount(t, of(sized(1<<17), w), 65536)
		wantCount(t, of(w, sized(1<<17)), 65536)
	}
}

// TestCountOfAll: also that it is how many there are, where none is held against an Over.
func TestCountOfAll(t *testing.T) {
	for _, c := range courses() {
		wantCount(t, c, countThat(c))
		if isCourse(40, c) {
			wantCount(t, c, len(course.Loads(plain(40), c)))
		}
	}
	for _, sizes := range upTo(4, 0, 1, 2, 3, 8, 41, 65535) {
		c := of(sized(sizes...))
		wantCount(t, c, countThat(c))
	}
	for _, sizes := range upTo(3, 0, 1, 2, 40, 32768, 65535, 65536) {
		var c api.Course
		for _, n := range sizes {
			c.Ways = append(c.Ways, sized(n), sized(2, n))
		}
		wantCount(t, c, countThat(c))
	}
}

// P14.1: Same

func TestSame(t *testing.T) {
	list := courses()
	for _, a := range list {
		for _, b := range list {
			wantSame(t, a, b, sameCourse(a, b))
		}
		wantSame(t, a, copyOf(a), true)
		wantSame(t, a, but(a, func(c *api.Course) { c.Name = strings.Clone(c.Name) }), true)
	}
}

// TestSameByOneAlone: in all else they are the same.
func TestSameByOneAlone(t *testing.T) {
	for _, a := range courses() {
		for _, change := range []func(*api.Course){
			func(c *api.Course) { c.Name += "x" },
			func(c *api.Course) { c.Name += "\x00" },
			func(c *api.Course) { c.Ways = append(c.Ways, api.Way{}) },
			func(c *api.Course) { c.Ways = append(c.Ways, ones(1)) },
			func(c *api.Course) { c.Ways = append([]api.Way{parts(row(-9))}, c.Ways...) },
		} {
			wantSame(t, a, but(a, change), false)
		}
	}
	wantSame(t, named("c"), named("C"), false)
	wantSame(t, named("c"), named("d"), false)
	wantSame(t, named("c"), named(""), false)
}

// TestSameByOneWay: each Way, each Part and each class counts.
func TestSameByOneWay(t *testing.T) {
	a := of(alike(5, 5, 9)...)
	for i := range a.Ways {
		for _, change := range []func(w *api.Way){
			func(w *api.Way) { w.Parts = append(w.Parts, nil) },
			func(w *api.Way) { w.Parts = append(w.Parts, row(1)) },
			func(w *api.Way) { w.Parts = append([][]int{row(-9)}, w.Parts...) },
			func(w *api.Way) { w.Parts = w.Parts[:len(w.Parts)-1] },
			func(w *api.Way) { w.Parts = w.Parts[1:] },
			func(w *api.Way) { w.Parts = nil },
		} {
			wantSame(t, a, but(a, func(c *api.Course) { change(&c.Ways[i]) }), false)
		}
		for j := range a.Ways[i].Parts {
			wantPartCounts(t, a, i, j)
		}
	}
	wantSame(t, a, but(a, func(c *api.Course) { c.Ways = c.Ways[:4] }), false)
	wantSame(t, a, but(a, func(c *api.Course) { c.Ways = c.Ways[1:] }), false)
	wantSame(t, a, but(a, func(c *api.Course) { c.Ways = nil }), false)
}

func wantPartCounts(t *testing.T, a api.Course, way, part int) {
	t.Helper()
	other := func(change func(part *[]int)) {
		t.Helper()
		wantSame(t, a, but(a, func(c *api.Course) { change(&c.Ways[way].Parts[part]) }), false)
	}
	other(func(p *[]int) { *p = append(*p, 0) })
	other(func(p *[]int) { *p = append(*p, (*p)[8]) })
	other(func(p *[]int) { *p = append([]int{-9}, *p...) })
	other(func(p *[]int) { *p = (*p)[:8] })
	other(func(p *[]int) { *p = (*p)[1:] })
	other(func(p *[]int) { *p = nil })
	for k := range a.Ways[way].Parts[part] {
		other(func(p *[]int) { (*p)[k]++ })
		other(func(p *[]int) { (*p)[k] -= 1 << 32 })
		other(func(p *[]int) { (*p)[k] = ^(*p)[k] })
	}
}

// TestSameByOrder: the same Ways, Parts and classes, but in another order, or parted otherwise.
func TestSameByOrder(t *testing.T) {
	a := of(parts(row(1, 2, 3), row(4, 5), row(6)), parts(row(7), row(8, 9)), parts(row(0)))
	for _, change := range []func(*api.Course){
		func(c *api.Course) { c.Ways[0], c.Ways[1] = c.Ways[1], c.Ways[0] },
		func(c *api.Course) { c.Ways[1], c.Ways[2] = c.Ways[2], c.Ways[1] },
		func(c *api.Course) { slices.Reverse(c.Ways) },
		func(c *api.Course) { slices.Reverse(c.Ways[0].Parts) },
		func(c *api.Course) {
			c.Ways[0].Parts[1], c.Ways[0].Parts[2] = c.Ways[0].Parts[2], c.Ways[0].Parts[1]
		},
		func(c *api.Course) { slices.Reverse(c.Ways[1].Parts) },
		func(c *api.Course) { slices.Reverse(c.Ways[0].Parts[0]) },
		func(c *api.Course) { slices.Reverse(c.Ways[0].Parts[1]) },
		func(c *api.Course) { slices.Reverse(c.Ways[1].Parts[1]) },
	} {
		wantSame(t, a, but(a, change), false)
	}
	wantSame(t, of(parts(row(1, 2))), of(parts(row(1), row(2))), false)
	wantSame(t, of(parts(row(1), row(2))), of(parts(row(1)), parts(row(2))), false)
	wantSame(t, of(parts(row(1, 2), row(3))), of(parts(row(1), row(2, 3))), false)
	wantSame(t, of(parts(row(1, 1, 2))), of(parts(row(1, 2, 2))), false)
	wantSame(t, of(parts(row(1, 1))), of(parts(row(1))), false)
	wantSame(t, of(parts(row(0))), of(parts(row())), false)
	wantSame(t, of(parts(row())), of(api.Way{}), false)
	wantSame(t, of(api.Way{}), of(), false)
	wantSame(t, of(parts(row(1)), parts(row(1))), of(parts(row(1))), false)
}

func TestSameOfNilAndEmpty(t *testing.T) {
	wantSame(t, api.Course{}, api.Course{}, true)
	wantSame(t, api.Course{Name: "c"}, of([]api.Way{}...), true)
	wantSame(t, of(api.Way{}), of(parts([][]int{}...)), true)
	wantSame(t, of(parts(nil)), of(parts(row())), true)
	wantSame(t, of(parts(nil, row(), row(1)), api.Way{}), of(parts(row(), nil, row(1)), parts([][]int{}...)), true)
	wantSame(t, roomy(small()), small(), true)
}

// P14.2: Above

func TestAbove(t *testing.T) {
	l := withOvers(-1, 0, 1, 1, 3, 9)
	wantAbove(t, l, 0)
	wantAbove(t, l, 1, 0)
	wantAbove(t, l, 2, 1, 0)
	wantAbove(t, l, 3, 1, 0)
	wantAbove(t, l, 4, 3, 1, 0)
	wantAbove(t, l, 5)
}

// TestAboveOfNoClass: of a class that there is not nothing stands above.
func TestAboveOfNoClass(t *testing.T) {
	for n := range 5 {
		for _, class := range append(wild(), -3, n, n+1, n+1<<32) {
			wantAbove(t, withOvers(run(-1, n)...), class)
			wantAbove(t, withOvers(slices.Repeat([]int{0}, n)...), class)
			wantAbove(t, withOvers(slices.Repeat([]int{class}, n)...), class)
		}
	}
	wantAbove(t, nil, 0)
	wantAbove(t, []api.Class{}, 0)
}

// TestAboveEnds: what is no class ends the row, and does not stand in it.
func TestAboveEnds(t *testing.T) {
	for _, end := range append(wild(), 4, 5) {
		wantAbove(t, withOvers(end, 0, 1, 2), 0)
		wantAbove(t, withOvers(end, 0, 1, 2), 1, 0)
		wantAbove(t, withOvers(end, 0, 1, 2), 3, 2, 1, 0)
		wantAbove(t, withOvers(1, end, 1, 2), 3, 2, 1)
		wantAbove(t, withOvers(1, 2, 3, end), 0, 1, 2, 3)
	}
}

// TestAboveComesBack: to the class itself, to one between, to the one that stood there last.
func TestAboveComesBack(t *testing.T) {
	wantAbove(t, withOvers(0), 0)
	wantAbove(t, withOvers(-1, 1), 1)
	wantAbove(t, withOvers(1, 0), 0, 1)
	wantAbove(t, withOvers(1, 0), 1, 0)
	wantAbove(t, withOvers(1, 2, 0), 0, 1, 2)
	wantAbove(t, withOvers(1, 2, 0), 1, 2, 0)
	wantAbove(t, withOvers(1, 2, 0), 2, 0, 1)
	wantAbove(t, withOvers(1, 2, 3, 1), 0, 1, 2, 3)
	wantAbove(t, withOvers(1, 2, 3, 2), 0, 1, 2, 3)
	wantAbove(t, withOvers(1, 2, 3, 3), 0, 1, 2, 3)
	wantAbove(t, withOvers(1, 1), 0, 1)
	wantAbove(t, withOvers(2, 2, 2), 1, 2)
	wantAbove(t, withOvers(3, 0, 1, 0), 2, 1, 0, 3)
}

// TestAboveOfEach: each row of up to five classes, of each Over.
func TestAboveOfEach(t *testing.T) {
	for n := range 6 {
		for _, overs := range each(n, run(-2, n+4)...) {
			l := withOvers(overs...)
			for class := -2; class < n+3; class++ {
				if got, want := course.Above(l, class), aboveThat(l, class); !slices.Equal(got, want) {
					t.Fatalf("of Overs %v: Above of %d is %v, want %v", overs, class, got, want)
				}
			}
		}
	}
}

// TestAboveOfLong: each over the next one, or the last one, or one by chance.
func TestAboveOfLong(t *testing.T) {
	const n = 200000
	down := run(0, n-1)
	slices.Reverse(down)
	wantAbove(t, withOvers(run(-1, n)...), n-1, down...)
	wantAbove(t, withOvers(run(1, n)...), 0, run(1, n-1)...)
	ring := withOvers(run(1, n)...)
	ring[n-1].Over = 0
	wantAbove(t, ring, 7, slices.Concat(run(8, n-8), run(0, 7))...)
	ring[n-1].Over = n / 2
	wantAbove(t, ring, 0, run(1, n-1)...)
	chance := rand.New(rand.NewSource(3))
	for range 300 {
		l := withOvers(chance.Perm(400)...)
		class := chance.Intn(400)
		wantAbove(t, l, class, aboveThat(l, class)...)
	}
}

// TestAboveByOverAlone: whatever else the classes have.
func TestAboveByOverAlone(t *testing.T) {
	l := withOvers(1, 2, -1)
	for i := range l {
		l[i].Name, l[i].Seats, l[i].Persons, l[i].Times = "c", -5, row(0), make([]api.Time, 30)
	}
	wantAbove(t, l, 0, 1, 2)
	wantLoads(t, l, of(ones(3)), row(0, 1, 2))
}

// P14.3: Loads and Takes

func TestLoadsInOrder(t *testing.T) {
	l := plain(40)
	wantLoads(t, l, of(parts(row(5))), row(5))
	wantLoads(t, l, of(parts(row(5, 7, 9))), row(5), row(7), row(9))
	wantLoads(t, l, of(parts(row(5, 7), row(1, 2, 3))), row(5, 1), row(5, 2), row(5, 3), row(7, 1), row(7, 2), row(7, 3))
	wantLoads(t, l, of(parts(row(8), row(0, 1), row(4), row(2, 3))), row(8, 0, 4, 2), row(8, 0, 4, 3), row(8, 1, 4, 2), row(8, 1, 4, 3))
	wantLoads(t, l, of(parts(row(8, 9), row(3)), parts(row(1, 2))), row(8, 3), row(9, 3), row(1), row(2))
	wantLoads(t, l, of(parts(row(1, 2)), parts(row(8, 9), row(3))), row(1), row(2), row(8, 3), row(9, 3))
	wantLoads(t, l, of(parts(row(0, 39))), row(0), row(39))
}

// TestLoadsOfTwoWays: each Way tells its loads, also those that another one has told.
func TestLoadsOfTwoWays(t *testing.T) {
	w := parts(row(0, 1), row(2))
	wantLoads(t, plain(3), of(w, w), row(0, 2), row(1, 2), row(0, 2), row(1, 2))
	wantLoads(t, plain(3), of(w, parts(row(1), row(2))), row(0, 2), row(1, 2), row(1, 2))
	// What 1 asks for stands in the first Way alone.
	l := withOvers(-1, 0, -1)
	wantLoads(t, l, of(w, parts(row(1), row(2))), row(0, 2), row(1, 2))
	wantTakes(t, l, of(w, parts(row(1), row(2))), row(1, 2), true)
	wantTakes(t, l, of(parts(row(1), row(2)), w), row(1, 2), true)
	wantTakes(t, l, of(w), row(1, 2), false)
}

func TestLoadsOfWhatMayNotBe(t *testing.T) {
	for _, c := range odd() {
		for _, l := range [][]api.Class{nil, {}, plain(1), plain(3), plain(40), bound(0, 1)} {
			wantLoads(t, l, c)
			wantTakes(t, l, c, row(0), false)
			wantTakes(t, l, c, nil, false)
			for _, w := range c.Ways {
				if len(w.Parts) > 9 {
					continue
				}
				for _, load := range loadsOf(w) {
					wantTakes(t, l, c, load, false)
				}
			}
		}
	}
	wantLoads(t, plain(40), of(ones(2), ones(0)))
	wantLoads(t, plain(40), of(ones(2), parts(row(40))))
	wantLoads(t, plain(40), named("", ones(2)))
	wantTakes(t, plain(40), named("", ones(2)), row(0, 1), false)
	wantTakes(t, plain(40), of(ones(2), parts(row(40))), row(0, 1), false)
	wantTakes(t, plain(40), of(ones(2), parts(row(40))), row(40), false)
}

// TestLoadsAmong: the course may be among the classes that there are, but not among one less.
func TestLoadsAmong(t *testing.T) {
	for n := range 45 {
		l := plain(n)
		c := of(parts(row(0), run(30, 3)))
		if n < 33 {
			wantLoads(t, l, c)
		} else {
			wantLoads(t, l, c, row(0, 30), row(0, 31), row(0, 32))
		}
		wantTakes(t, l, c, row(0, 30), n >= 33)
		wantTakes(t, l, c, row(0, 32), n >= 33)
	}
}

func TestLoadsByOver(t *testing.T) {
	c := of(parts(row(0, 1), row(2, 3), row(4, 5)))
	wantLoads(t, bound(5, 3), c, row(0, 2, 4), row(0, 3, 4), row(0, 3, 5), row(1, 2, 4), row(1, 3, 4), row(1, 3, 5))
	wantLoads(t, bound(0, 4), c, row(0, 2, 4), row(0, 3, 4), row(1, 2, 4), row(1, 2, 5), row(1, 3, 4), row(1, 3, 5))
	wantLoads(t, bound(5, 3, 3, 1), c, row(0, 2, 4), row(1, 2, 4), row(1, 3, 4), row(1, 3, 5))
	// In the same Part: whoever has it there can not have it.
	wantLoads(t, bound(0, 1), c, row(1, 2, 4), row(1, 2, 5), row(1, 3, 4), row(1, 3, 5))
	wantLoads(t, bound(3, 2), c, row(0, 2, 4), row(0, 2, 5), row(1, 2, 4), row(1, 2, 5))
	wantLoads(t, bound(4, 5, 5, 4), c)
	wantLoads(t, bound(0, 1, 1, 0), c)
	// Of itself.
	wantLoads(t, bound(0, 0, 3, 3), of(parts(row(0), row(3))), row(0, 3))
	// Of one another.
	wantLoads(t, bound(0, 2, 2, 0), of(parts(row(0, 1), row(2, 3))), row(0, 2), row(1, 3))
	wantLoads(t, bound(0, 2, 2, 1), of(parts(row(0, 1), row(2, 3))), row(1, 2), row(1, 3))
	// All ask for what no one else may have.
	wantLoads(t, bound(2, 0, 3, 0, 4, 1, 5, 1), c)
}

// TestLoadsByOverElsewhere: an Over that is in no Part of the Way asks for nothing, whatever it is itself.
func TestLoadsByOverElsewhere(t *testing.T) {
	c := of(parts(row(0, 1), row(2, 3)))
	all := [][]int{row(0, 2), row(0, 3), row(1, 2), row(1, 3)}
	for _, over := range append(wild(), 4, 5, 38, 39, 40, 41) {
		wantLoads(t, bound(0, over, 1, over, 2, over, 3, over), c, all...)
		wantLoads(t, bound(0, over), c, all...)
		wantLoads(t, bound(3, over), c, all...)
		wantTakes(t, bound(0, over, 1, over, 2, over, 3, over), c, row(1, 2), true)
	}
	// An Over's own Over is asked for by those alone who have that Over.
	wantLoads(t, bound(2, 9, 9, 0), c, all...)
	wantLoads(t, bound(9, 0, 8, 1), c, all...)
	three := of(parts(row(0, 1), row(2, 3), row(4, 5)))
	wantLoads(t, bound(4, 2, 2, 0), three, row(0, 2, 4), row(0, 2, 5), row(0, 3, 5), row(1, 3, 5))
	// One Way's Part is none of the other one's.
	two := of(parts(row(0, 1)), parts(row(2, 3)))
	wantLoads(t, bound(0, 2, 2, 1, 3, 0), two, row(0), row(1), row(2), row(3))
}

// TestLoadsByEachOver: of a few courses, over classes of each Overs.
func TestLoadsByEachOver(t *testing.T) {
	list := []api.Course{
		of(parts(row(0, 1, 2, 3))), of(parts(row(0, 1), row(2, 3))), of(parts(row(0), row(1, 2), row(3))), of(parts(row(2, 3), row(1))),
		of(parts(row(3), row(2), row(1), row(0))), of(parts(row(0), row(1)), parts(row(2), row(3))), of(parts(row(0, 1), row(2)), parts(row(1, 3), row(0))),
	}
	for _, overs := range each(4, -2, -1, 0, 1, 2, 3, 4) {
		l := withOvers(overs...)
		for _, c := range list {
			got, want := course.Loads(l, c), loadsThat(l, c)
			if !sameRows(got, want) {
				t.Fatalf("of %v and Overs %v: Loads are %v, want %v", c, overs, got, want)
			}
			for _, load := range append(each(2, 0, 1, 2, 3), row(0), row(3), row(0, 1, 3), row(3, 2, 1, 0)) {
				held := slices.ContainsFunc(want, func(x []int) bool { return slices.Equal(x, load) })
				if course.Takes(l, c, load) != held {
					t.Fatalf("of %v and Overs %v: Takes(%v) = %v", c, overs, load, !held)
				}
			}
		}
	}
}

// TestLoadsByOneOver: each class of a wide Way over each other one.
func TestLoadsByOneOver(t *testing.T) {
	c := of(parts(row(1, 4, 5), row(0, 9), row(7, 8), row(2, 3, 6)))
	for class := range 11 {
		for over := -2; over <= 11; over++ {
			l := plain(11)
			l[class].Over = over
			wantHeld(t, l, c)
		}
	}
}

func TestLoadsOfSome(t *testing.T) {
	chance := rand.New(rand.NewSource(4))
	some := 0
	for range 4000 {
		c := chanced(chance)
		l := plain(9)
		for range chance.Intn(5) {
			l[chance.Intn(9)].Over = chance.Intn(11) - 1
		}
		if n := len(loadsThat(l, c)); n > 0 && n < course.Count(c) {
			some++
		}
		if isCourse(9, c) {
			wantHeld(t, l, c)
		} else {
			wantLoads(t, l, c)
		}
	}
	if some < 1000 {
		t.Errorf("of %d courses alone some loads hold together and some do not: they tell little", some)
	}
}

// TestLoadsOfTheWidest: as many as there may be.
func TestLoadsOfTheWidest(t *testing.T) {
	wantLoads(t, plain(40), good(), loadsThat(plain(40), good())...)
	l := bound(8, 0, 9, 1, 16, 8, 30, 20, 5, 39, 34, 3)
	wantLoads(t, l, good(), loadsThat(l, good())...)
}

func TestTakes(t *testing.T) {
	l, c := bound(7, 2), of(parts(row(0, 1), row(2, 3), row(6, 7)), parts(row(4, 5)))
	for _, load := range course.Loads(l, c) {
		wantTakes(t, l, c, load, true)
		wantTakes(t, l, c, load[1:], false)
		wantTakes(t, l, c, append(slices.Clone(load), 0), false)
		wantTakes(t, l, c, append(slices.Clone(load), load...), false)
		wantTakes(t, l, c, append(row(load[0]), load...), false)
		wantTakes(t, l, c, slices.Clip(load[:len(load)-1]), false)
		for i := range load {
			for _, class := range append(wild(), 8, 39, 40, load[(i+1)%len(load)]) {
				other := slices.Clone(load)
				other[i] = class
				wantTakes(t, l, c, other, len(load) == 1 && class == load[0])
			}
		}
	}
	wantTakes(t, l, c, nil, false)
	wantTakes(t, l, c, row(), false)
	wantTakes(t, l, c, row(4, 5), false)
	wantTakes(t, l, c, row(0), false)
	wantTakes(t, l, c, row(2, 0, 6), false)
	wantTakes(t, l, c, row(6, 2, 0), false)
	wantTakes(t, l, c, row(0, 3, 7), false)
	wantTakes(t, l, c, row(0, 0, 0), false)
	wantTakes(t, l, c, row(4, 2, 6), false)
}

// TestTakesEach: of a small course each row that is one of Loads, and no other one.
func TestTakesEach(t *testing.T) {
	for _, c := range []api.Course{small(), of(parts(row(0, 2), row(1))), of(parts(row(1)), parts(row(0), row(2, 3)), parts(row(2, 4), row(0, 1)))} {
		for _, l := range [][]api.Class{plain(9), bound(1, 0), bound(3, 0, 5, 4, 2, 1), bound(0, 2, 2, 0), bound(2, 4, 4, 1)} {
			want := loadsThat(l, c)
			for _, load := range upTo(4, -1, 0, 1, 2, 3, 4, 5, 9) {
				held := slices.ContainsFunc(want, func(x []int) bool { return slices.Equal(x, load) })
				wantTakes(t, l, c, load, held)
			}
		}
	}
}

func TestTakesOfLong(t *testing.T) {
	c := of(ones(4))
	for _, n := range []int{5, 256, 260, 1<<16 + 4, 1 << 20} {
		wantTakes(t, plain(40), c, run(0, n), false)
		wantTakes(t, plain(40), c, lots(n), false)
	}
	wantTakes(t, plain(40), c, run(0, 4), true)
}

// P14.4: what follows

func TestLoadsAreAsLongAsTheirWay(t *testing.T) {
	c := of(parts(row(0, 1), row(2, 3), row(4)), parts(row(5)), parts(row(6), row(7, 8)), parts(row(9), row(10), row(11), row(12, 13)))
	var sizes []int
	for _, load := range course.Loads(bound(3, 1, 8, 6), c) {
		sizes = append(sizes, len(load))
	}
	if want := row(3, 3, 3, 1, 2, 2, 4, 4); !slices.Equal(sizes, want) {
		t.Errorf("Loads have %v classes, want %v", sizes, want)
	}
	for n := 1; n <= 4; n++ {
		for _, load := range course.Loads(plain(40), of(alike(4, n, 3)...)) {
			if len(load) != n {
				t.Fatalf("of %d Parts: %v", n, load)
			}
		}
	}
}

// R4, R6: what is handed in stays, what is handed out is new, and what is answered is the same again

// roomy is c with room to spare behind each row's end, in which others stand.
func roomy(c api.Course) api.Course {
	out := copyOf(c)
	for i := range out.Ways {
		w := &out.Ways[i]
		for j, part := range w.Parts {
			w.Parts[j] = slices.Concat(part, row(9, 3, 7))[:len(part)]
		}
		w.Parts = slices.Concat(w.Parts, [][]int{row(6), row(1)})[:len(w.Parts)]
	}
	out.Ways = slices.Concat(out.Ways, alike(2, 2, 2))[:len(out.Ways)]
	return out
}

// whole is all that stands in c's rows, their spare room too.
func whole(c api.Course) api.Course {
	out := api.Course{Name: c.Name}
	for _, w := range c.Ways[:cap(c.Ways)] {
		var way api.Way
		for _, part := range w.Parts[:cap(w.Parts)] {
			way.Parts = append(way.Parts, slices.Clone(part[:cap(part)]))
		}
		out.Ways = append(out.Ways, way)
	}
	return out
}

func oversOf(l []api.Class) []int {
	var out []int
	for _, c := range l[:cap(l)] {
		out = append(out, c.Over)
	}
	return out
}

func TestNothingIsChanged(t *testing.T) {
	for _, c := range courses() {
		for _, c := range []api.Course{copyOf(c), roomy(c)} {
			l := slices.Concat(bound(1, 0, 0, 2), withOvers(5, 1))[:40]
			load := slices.Concat(row(0, 2), row(8, 4))[:2]
			was, all, overs := copyOf(c), whole(c), oversOf(l)
			course.Right(40, c)
			course.Count(c)
			course.Classes(c)
			course.Loads(l, c)
			course.Takes(l, c, load)
			course.Same(c, good())
			course.Same(good(), c)
			course.Same(c, copyOf(c))
			course.Above(l, 1)
			if !sameCourse(c, was) || !sameCourse(whole(c), all) {
				t.Fatalf("%v is another one: %v", all, whole(c))
			}
			if !slices.Equal(oversOf(l), overs) || !slices.Equal(load[:4], row(0, 2, 8, 4)) {
				t.Fatalf("the classes or the load are others: %v, %v", oversOf(l), load[:4])
			}
		}
	}
}

// spoil writes over all that a row has, its spare room too.
func spoil(l []int) {
	for i := range l[:cap(l)] {
		l[:cap(l)][i] = -99
	}
}

// TestLoadsAreNew: no row of them is another one's, or the course's.
func TestLoadsAreNew(t *testing.T) {
	for _, c := range []api.Course{small(), roomy(small()), of(parts(row(3))), roomy(of(ones(1))), of(parts(row(1, 2, 3))), of(ones(4), ones(4)), of(alike(4, 4, 2)...)} {
		l := bound(1, 0)
		want, all := loadsThat(l, c), whole(c)
		again := course.Loads(l, c)
		for i := range want {
			got := course.Loads(l, c)
			spoil(got[i])
			got[i] = want[i]
			if !sameRows(got, want) {
				t.Fatalf("of %v: with Load %d others are changed: %v", c, i, got)
			}
			clear(got[:cap(got)])
		}
		if !sameRows(again, want) || !sameCourse(whole(c), all) {
			t.Fatalf("of %v: Loads of ahead are changed, %v, or the course is: %v", all, again, whole(c))
		}
		wantLoads(t, l, c, want...)
	}
}

func TestClassesAreNew(t *testing.T) {
	for _, c := range []api.Course{small(), roomy(small()), of(parts(row(1, 2, 3))), roomy(of(parts(row(1, 2, 3)))), of(parts(nil), parts(row(4)))} {
		want, all := classesThat(c), whole(c)
		again := course.Classes(c)
		spoil(course.Classes(c))
		if !slices.Equal(again, want) || !sameCourse(whole(c), all) {
			t.Fatalf("of %v: Classes of ahead are changed, %v, or the course is: %v", all, again, whole(c))
		}
		wantClasses(t, c, want...)
	}
}

func TestAboveIsNew(t *testing.T) {
	l := withOvers(-1, 0, 1, 2)
	again := course.Above(l, 3)
	spoil(course.Above(l, 3))
	if !slices.Equal(again, row(2, 1, 0)) || !slices.Equal(oversOf(l), row(-1, 0, 1, 2)) {
		t.Errorf("Above of ahead is changed, %v, or the classes are: %v", again, oversOf(l))
	}
	wantAbove(t, l, 3, 2, 1, 0)
}

// TestNothingIsKept: what is handed in and changed behind the call changes no answer.
func TestNothingIsKept(t *testing.T) {
	c, l := small(), bound(3, 1)
	loads, classes, above := course.Loads(l, c), course.Classes(c), course.Above(l, 3)
	want := loadsThat(l, c)
	for _, w := range c.Ways {
		for _, part := range w.Parts {
			spoil(part)
		}
	}
	clear(l)
	if !sameRows(loads, want) || !slices.Equal(classes, row(0, 1, 2, 3, 4, 5, 7, 8)) || !slices.Equal(above, row(1)) {
		t.Errorf("behind a change Loads are %v, Classes %v, Above %v", loads, classes, above)
	}
}

// TestAgain: what was asked ahead changes no answer.
func TestAgain(t *testing.T) {
	c, l := of(parts(row(0, 1), row(2, 3))), withOvers(-1, -1, 0, 1)
	for range 3 {
		wantRight(t, 4, c, true)
		wantRight(t, 3, c, false)
		wantLoads(t, l, c, row(0, 2), row(1, 3))
		wantLoads(t, l[:3], c)
		wantTakes(t, l, c, row(0, 2), true)
		wantTakes(t, l, c, row(0, 3), false)
		wantCount(t, c, 4)
		wantCount(t, api.Course{}, 0)
		wantClasses(t, c, 0, 1, 2, 3)
		wantClasses(t, api.Course{})
		wantAbove(t, l, 3, 1)
		wantAbove(t, l, 1)
		wantSame(t, c, copyOf(c), true)
		wantSame(t, c, good(), false)
	}
}
