package bits_test

import (
	"iter"
	"math"
	"math/rand"
	"slices"
	"testing"

	"horarium/bits"
)

const (
	all    = math.MaxUint64
	first  = 1
	last   = 1 << 63
	beyond = 4096 // the first number that may not be put in
)

// numbers are those at which words, and what may be put in, begin and end, and wild ones.
func numbers() []int {
	out := []int{math.MinInt, math.MinInt + 1, math.MinInt + 63, math.MinInt + 64, math.MinInt32, -1 << 12, -1 << 32, math.MaxInt32, 1 << 32, 1<<32 + 1, 1<<38 + 1, math.MaxInt - 64, math.MaxInt - 63, math.MaxInt - 1, math.MaxInt}
	for _, near := range []int{-beyond, -64, 0, 64, 128, 640, 2048, beyond - 64, beyond, beyond + 64, 5000} {
		for i := near - 2; i <= near+2; i++ {
			out = append(out, i)
		}
	}
	return out
}

// words is a row with x at its end, behind so many words of 0.
func words(ahead int, x uint64) []uint64 {
	return append(make([]uint64, ahead), x)
}

// full is a row of words that have all bits.
func full(length int) []uint64 {
	row := make([]uint64, length)
	for i := range row {
		row[i] = all
	}
	return row
}

// sets are short ones, ones that are not, and ones with words behind the number 4095, the same in each run.
func sets() [][]uint64 {
	out := [][]uint64{nil, {}, {0}, {0, 0, 0}, make([]uint64, 64), make([]uint64, 70), {2, 1}, {1, 2, 0}, {0, 5, 0, 0}, {0xaaaaaaaaaaaaaaaa, 0x5555555555555555}, {0x5555555555555555, 0xaaaaaaaaaaaaaaaa}}
	for _, x := range []uint64{first, last, first | last, all, all - 1, all >> 1, 1 << 32} {
		for _, ahead := range []int{0, 1, 2, 62, 63, 64, 69} {
			out = append(out, words(ahead, x), append(words(ahead, x), 0), append(words(ahead, x), 0, 0, 0))
		}
	}
	for _, length := range []int{1, 2, 3, 63, 64, 65, 70} {
		out = append(out, full(length), append(full(length), 0, 0))
	}
	chance := rand.New(rand.NewSource(1))
	for range 60 {
		row := make([]uint64, chance.Intn(71))
		for i := range row {
			row[i] = chance.Uint64() & chance.Uint64() & chance.Uint64() >> chance.Intn(64)
		}
		out = append(out, row)
	}
	return out
}

// The chapter's words once more, number by number

// has tells whether i is in s.
func has(s []uint64, i int) bool {
	for at, x := range s {
		for n := range 64 {
			if at*64+n == i {
				return x>>n%2 == 1
			}
		}
	}
	return false
}

// members are the numbers in s, rising.
func members(s []uint64) []int {
	var list []int
	for at, x := range s {
		for n := range 64 {
			if x%2 == 1 {
				list = append(list, at*64+n)
			}
			x /= 2
		}
	}
	return list
}

// setOf is the short set of the numbers, also of those that may not be put in, but none below 0.
func setOf(list []int) []uint64 {
	if len(list) == 0 {
		return nil
	}
	set := make([]uint64, slices.Max(list)/64+1)
	for _, i := range list {
		set[i/64] |= 1 << (i % 64)
	}
	return set
}

func mayBePutIn(i int) bool { return i >= 0 && i < beyond }

// only are the numbers of list for which keep answers true.
func only(list []int, keep func(int) bool) []int {
	return slices.DeleteFunc(slices.Clone(list), func(i int) bool { return !keep(i) })
}

// shorten is s without the words of 0 at its end.
func shorten(s []uint64) []uint64 {
	length := 0
	for at, x := range s {
		if x != 0 {
			length = at + 1
		}
	}
	return s[:length]
}

// wantSet: words and how many there are: a set that is not short is another one.
func wantSet(t *testing.T, call string, got, want []uint64) {
	t.Helper()
	if !slices.Equal(got, want) {
		t.Errorf("%s is %.80x (%d words), want %.80x (%d words)", call, got, len(got), want, len(want))
	}
}

func wantList(t *testing.T, call string, got, want []int) {
	t.Helper()
	if !slices.Equal(got, want) {
		t.Errorf("%s is %v, want %v", call, got, want)
	}
}

func wantHas(t *testing.T, s []uint64, i int, want bool) {
	t.Helper()
	if got := bits.Has(s, i); got != want {
		t.Errorf("Has(%.80x, %d) = %v, want %v", s, i, got, want)
	}
}

func wantInside(t *testing.T, a, b []uint64, want bool) {
	t.Helper()
	if got := bits.Inside(a, b); got != want {
		t.Errorf("Inside(%.80x, %.80x) = %v, want %v", a, b, got, want)
	}
}

func wantSame(t *testing.T, a, b []uint64, want bool) {
	t.Helper()
	if got := bits.Same(a, b); got != want {
		t.Errorf("Same(%.80x, %.80x) = %v, want %v", a, b, got, want)
	}
}

// gone are the numbers that all goes over, up to so many.
func gone(all iter.Seq[int], most int) []int {
	var list []int
	if most == 0 {
		return list
	}
	for i := range all {
		list = append(list, i)
		if len(list) == most {
			break
		}
	}
	return list
}

// P5.1: Of

func TestKnownSets(t *testing.T) {
	for _, c := range []struct {
		list []int
		set  []uint64
	}{
		{nil, nil}, {[]int{}, nil}, {[]int{0}, []uint64{1}}, {[]int{1}, []uint64{2}}, {[]int{63}, []uint64{last}}, {[]int{64}, []uint64{0, 1}},
		{[]int{1, 64, 1}, []uint64{2, 1}}, {[]int{64, 1}, []uint64{2, 1}}, {[]int{0, 0, 0}, []uint64{1}}, {[]int{127, 128}, []uint64{0, last, 1}},
		{[]int{0, 63, 64, 127}, []uint64{first | last, first | last}}, {[]int{3, 2, 1, 0}, []uint64{15}},
		{[]int{4032}, words(63, first)}, {[]int{4095}, words(63, last)}, {[]int{4031, 4095}, append(words(62, last), last)},
		{[]int{4096}, nil}, {[]int{-1}, nil}, {[]int{-1, 4096, math.MinInt, math.MaxInt}, nil}, {[]int{-64, 5, 4096}, []uint64{32}},
		{[]int{4095, 4096}, words(63, last)}, {[]int{4096, 0}, []uint64{1}}, {[]int{-1, -63, -64, -65}, nil}, {[]int{math.MaxInt, 7, math.MinInt}, []uint64{128}},
		{[]int{1 << 32, 1<<32 + 1, 1 << 38, 1 << 63 >> 1}, nil},
	} {
		wantSet(t, "Of", bits.Of(c.list...), c.set)
	}
	wantSet(t, "Of()", bits.Of(), nil)
	wantSet(t, "Of(1, 64, 1)", bits.Of(1, 64, 1), []uint64{2, 1})
	wantSet(t, "Less of it and Of(64)", bits.Less(bits.Of(1, 64, 1), bits.Of(64)), []uint64{2})
}

func TestOfOneNumber(t *testing.T) {
	for i := range beyond {
		want := words(i/64, 1<<(i%64))
		wantSet(t, "Of", bits.Of(i), want)
		wantSet(t, "Of", bits.Of(i, i), want)
		wantSet(t, "Of", bits.Of(i, 0, i), setOf([]int{0, i}))
		wantSet(t, "Of", bits.Of(beyond, i, -1), want)
	}
	for i := range 1000 {
		wantSet(t, "Of", bits.Of(beyond+i), nil)
		wantSet(t, "Of", bits.Of(-1-i), nil)
	}
}

func TestOfManyNumbers(t *testing.T) {
	chance := rand.New(rand.NewSource(2))
	for range 500 {
		list := make([]int, chance.Intn(300))
		for i := range list {
			list[i] = chance.Intn(beyond+200) - 100
		}
		list = append(list, numbers()[chance.Intn(len(numbers()))])
		want := setOf(only(list, mayBePutIn))
		wantSet(t, "Of", bits.Of(list...), want)
		slices.Sort(list)
		wantSet(t, "Of", bits.Of(list...), want)
		slices.Reverse(list)
		wantSet(t, "Of", bits.Of(append(list, list...)...), want)
	}
	list := make([]int, beyond+100)
	for i := range list {
		list[i] = i - 50
	}
	wantSet(t, "Of", bits.Of(list...), setOf(only(list, mayBePutIn)))
	wantSet(t, "Of", bits.Of(append(list, beyond-1)...), append(full(63), all))
	wantSet(t, "Of", bits.Of(numbers()...), setOf(only(numbers(), mayBePutIn)))
}

// P5.1: Has, With, Without

func TestKnownMembers(t *testing.T) {
	for _, c := range []struct {
		set []uint64
		i   int
		in  bool
	}{
		{nil, 0, false}, {[]uint64{}, 0, false}, {[]uint64{0}, 0, false}, {[]uint64{1}, 0, true}, {[]uint64{1}, 1, false}, {[]uint64{1}, -1, false}, {[]uint64{1}, 64, false},
		{[]uint64{last}, 63, true}, {[]uint64{last}, -1, false}, {[]uint64{last}, 62, false}, {[]uint64{last}, 127, false}, {[]uint64{0, 1}, 64, true}, {[]uint64{0, 1}, 0, false},
		{full(64), 4095, true}, {full(64), 4096, false}, {full(65), 4096, true}, {full(65), 4159, true}, {full(65), 4160, false}, {full(70), -64, false},
		{full(1), math.MinInt, false}, {full(1), math.MaxInt, false}, {full(1), 1 << 32, false}, {full(1), -1 << 63, false}, {full(2), 63, true}, {full(2), 64, true}, {full(2), 128, false},
	} {
		wantHas(t, c.set, c.i, c.in)
	}
}

func TestHasOfEachNumber(t *testing.T) {
	for _, s := range sets() {
		in := map[int]bool{}
		for _, i := range members(s) {
			in[i] = true
		}
		for i := -70; i < 64*len(s)+70; i++ {
			wantHas(t, s, i, in[i])
		}
		for _, i := range numbers() {
			wantHas(t, s, i, has(s, i))
		}
	}
}

func TestKnownWithAndWithout(t *testing.T) {
	wantSet(t, "With", bits.With(nil, 0), []uint64{1})
	wantSet(t, "With", bits.With(nil, 4095), words(63, last))
	wantSet(t, "With", bits.With(nil, 4096), nil)
	wantSet(t, "With", bits.With(nil, -1), nil)
	wantSet(t, "With", bits.With([]uint64{1, 0, 0}, 0), []uint64{1})
	wantSet(t, "With", bits.With([]uint64{1, 0, 0}, 64), []uint64{1, 1})
	wantSet(t, "With", bits.With([]uint64{1, 0, 0}, -5), []uint64{1})
	wantSet(t, "With", bits.With([]uint64{0, 0, 0}, 4096), nil)
	wantSet(t, "With", bits.With([]uint64{0, 0, 4}, 63), []uint64{last, 0, 4})
	wantSet(t, "With", bits.With(make([]uint64, 70), 4095), words(63, last))
	wantSet(t, "Without", bits.Without(nil, 0), nil)
	wantSet(t, "Without", bits.Without([]uint64{1}, 0), nil)
	wantSet(t, "Without", bits.Without([]uint64{1}, 64), []uint64{1})
	wantSet(t, "Without", bits.Without([]uint64{last}, -1), []uint64{last})
	wantSet(t, "Without", bits.Without([]uint64{2, 0, 1}, 128), []uint64{2})
	wantSet(t, "Without", bits.Without([]uint64{2, 0, 1}, 1), []uint64{0, 0, 1})
	wantSet(t, "Without", bits.Without([]uint64{2, 0, 0}, 7), []uint64{2})
	wantSet(t, "Without", bits.Without(full(64), 4095), append(full(63), all>>1))
}

// TestNumbersBehindTheLast: a number that may not be put in, but is in a set that is handed in, stays in it, and may be taken out.
func TestNumbersBehindTheLast(t *testing.T) {
	s := append(words(64, first|last), 0)
	wantSet(t, "With", bits.With(s, 4096), words(64, first|last))
	wantSet(t, "With", bits.With(s, 4097), words(64, first|last))
	wantSet(t, "With", bits.With(s, 0), append([]uint64{1}, s[1:65]...))
	wantSet(t, "Without", bits.Without(s, 4096), words(64, last))
	wantSet(t, "Without", bits.Without(bits.Without(s, 4159), 4096), nil)
	wantSet(t, "And", bits.And(s, full(70)), words(64, first|last))
	wantSet(t, "Or", bits.Or(s, nil), words(64, first|last))
	wantSet(t, "Less", bits.Less(s, full(64)), words(64, first|last))
	wantList(t, "List", bits.List(s), []int{4096, 4159})
	wantSet(t, "Of of List", bits.Of(bits.List(s)...), nil)
	wantInside(t, s, full(64), false)
	wantSame(t, s, nil, false)
}

func TestWithAndWithoutEachNumber(t *testing.T) {
	for _, s := range sets() {
		in := members(s)
		for _, i := range append(numbers(), 1, 100, 700, 3000) {
			with := in
			if mayBePutIn(i) {
				with = append(slices.Clone(in), i)
			}
			wantSet(t, "With", bits.With(s, i), setOf(with))
			wantSet(t, "Without", bits.Without(s, i), setOf(only(in, func(n int) bool { return n != i })))
		}
	}
}

// P5.1: And, Or, Less

func TestKnownPairs(t *testing.T) {
	for _, c := range []struct{ a, b, and, or, less []uint64 }{
		{nil, nil, nil, nil, nil},
		{[]uint64{0}, []uint64{0, 0}, nil, nil, nil},
		{[]uint64{6}, nil, nil, []uint64{6}, []uint64{6}},
		{nil, []uint64{6}, nil, []uint64{6}, nil},
		{[]uint64{6}, []uint64{3}, []uint64{2}, []uint64{7}, []uint64{4}},
		{[]uint64{6, 0}, []uint64{3, 0, 0}, []uint64{2}, []uint64{7}, []uint64{4}},
		{[]uint64{2, 1}, []uint64{0, 1}, []uint64{0, 1}, []uint64{2, 1}, []uint64{2}},
		{[]uint64{2, 1}, []uint64{2}, []uint64{2}, []uint64{2, 1}, []uint64{0, 1}},
		{[]uint64{2}, []uint64{2, 1}, []uint64{2}, []uint64{2, 1}, nil},
		{[]uint64{1, 1}, []uint64{2, 2}, nil, []uint64{3, 3}, []uint64{1, 1}},
		{[]uint64{1, 1}, []uint64{1, 2}, []uint64{1}, []uint64{1, 3}, []uint64{0, 1}},
		{[]uint64{all}, []uint64{last}, []uint64{last}, []uint64{all}, []uint64{all >> 1}},
		{[]uint64{last}, []uint64{all}, []uint64{last}, []uint64{all}, nil},
	} {
		wantSet(t, "And", bits.And(c.a, c.b), c.and)
		wantSet(t, "Or", bits.Or(c.a, c.b), c.or)
		wantSet(t, "Less", bits.Less(c.a, c.b), c.less)
	}
}

func TestEachTwoSets(t *testing.T) {
	for _, a := range sets() {
		inA := members(a)
		for _, b := range sets() {
			inB := members(b)
			and := only(inA, func(i int) bool { return has64(b, i) })
			less := only(inA, func(i int) bool { return !has64(b, i) })
			wantSet(t, "And", bits.And(a, b), setOf(and))
			wantSet(t, "Or", bits.Or(a, b), setOf(append(slices.Clone(inA), inB...)))
			wantSet(t, "Less", bits.Less(a, b), setOf(less))
			wantInside(t, a, b, len(less) == 0)
			wantSame(t, a, b, slices.Equal(inA, inB))
		}
	}
}

// has64 is has, without going through all words: it is asked very often.
func has64(s []uint64, i int) bool {
	return i/64 < len(s) && s[i/64]>>(i%64)%2 == 1
}

// P5.2: Count, List, All

func TestKnownLists(t *testing.T) {
	for _, c := range []struct {
		set  []uint64
		list []int
	}{
		{nil, nil}, {[]uint64{}, nil}, {[]uint64{0}, nil}, {[]uint64{0, 0, 0}, nil}, {[]uint64{1}, []int{0}}, {[]uint64{last}, []int{63}}, {[]uint64{0, 1}, []int{64}},
		{[]uint64{2, 1}, []int{1, 64}}, {[]uint64{2, 1, 0}, []int{1, 64}}, {[]uint64{first | last, 0, first | last, 0}, []int{0, 63, 128, 191}}, {[]uint64{0b10110}, []int{1, 2, 4}},
		{words(63, last), []int{4095}}, {words(64, first), []int{4096}},
	} {
		wantList(t, "List", bits.List(c.set), c.list)
		wantList(t, "All", gone(bits.All(c.set), -1), c.list)
		if got := bits.Count(c.set); got != len(c.list) {
			t.Errorf("Count(%.80x) = %d, want %d", c.set, got, len(c.list))
		}
	}
	for _, length := range []int{1, 2, 64, 65} {
		if got := bits.Count(full(length)); got != 64*length {
			t.Errorf("Count of %d words with all bits is %d", length, got)
		}
	}
}

func TestListsOfEachSet(t *testing.T) {
	for _, s := range sets() {
		want := members(s)
		wantList(t, "List", bits.List(s), want)
		wantList(t, "All", gone(bits.All(s), -1), want)
		if got := bits.Count(s); got != len(want) {
			t.Errorf("Count(%.80x) = %d, want %d", s, got, len(want))
		}
		if !slices.IsSorted(bits.List(s)) {
			t.Errorf("List(%.80x) does not rise", s)
		}
	}
}

// TestAllIsLeft: at each place, and then gone over once more, from the first number on.
func TestAllIsLeft(t *testing.T) {
	for _, s := range [][]uint64{nil, {0}, {1}, {last}, {2, 1}, {first | last, 0, first | last, 0}, {all}, {0, all, 0, last}, words(63, all), words(64, all)} {
		want := members(s)
		numbers := bits.All(s)
		for most := range len(want) + 1 {
			wantList(t, "All, left", gone(numbers, most), want[:most])
		}
		for range 3 {
			wantList(t, "All", gone(numbers, -1), want)
		}
	}
}

// TestAllLeftAtOnce: nothing more is told to who has left, not even of another word.
func TestAllLeftAtOnce(t *testing.T) {
	for _, s := range [][]uint64{{all}, {1, 1, 1}, {last, 0, last}, full(70)} {
		for leave := 1; leave <= min(len(members(s)), 130); leave++ {
			told := 0
			bits.All(s)(func(int) bool {
				told++
				return told < leave
			})
			if told != leave {
				t.Errorf("All(%.80x), left at %d numbers, told %d", s, leave, told)
			}
		}
	}
}

// TestAllWithinAll: one goes over the numbers while another one does.
func TestAllWithinAll(t *testing.T) {
	s := []uint64{first | last, 0, 0b110}
	want := members(s)
	numbers := bits.All(s)
	var outer []int
	for i := range numbers {
		outer = append(outer, i)
		wantList(t, "the inner All", gone(numbers, -1), want)
		wantList(t, "the inner All, left", gone(numbers, 2), want[:2])
	}
	wantList(t, "the outer All", outer, want)
}

// TestAllTellsWhatWasThere: what is done with the set behind the call is not to be seen (R4, R6).
func TestAllTellsWhatWasThere(t *testing.T) {
	s := []uint64{2, 1}
	numbers := bits.All(s)
	clear(s)
	wantList(t, "All of a set that was cleared", gone(numbers, -1), []int{1, 64})
	s = []uint64{0, 0}
	numbers = bits.All(s)
	s[0], s[1] = all, all
	wantList(t, "All of a set that was filled", gone(numbers, -1), nil)
	s = full(3)
	told := 0
	for range bits.All(s) {
		clear(s)
		told++
	}
	if told != 3*64 {
		t.Errorf("All of a set that is cleared meanwhile tells %d numbers", told)
	}
}

// TestAllIsNeverNil: of a set without numbers it ends at once (R3).
func TestAllIsNeverNil(t *testing.T) {
	for _, s := range [][]uint64{nil, {}, {0}, {0, 0}, make([]uint64, 100)} {
		numbers := bits.All(s)
		if numbers == nil {
			t.Fatalf("All(%v) is nil", s)
		}
		for i := range numbers {
			t.Errorf("All(%v) tells %d", s, i)
		}
	}
}

// P5.2: Inside, Same

func TestKnownInsideAndSame(t *testing.T) {
	for _, c := range []struct {
		a, b                    []uint64
		inside, turned, theSame bool
	}{
		{nil, nil, true, true, true}, {nil, []uint64{}, true, true, true}, {nil, []uint64{0, 0}, true, true, true}, {nil, []uint64{1}, true, false, false},
		{[]uint64{0, 0}, []uint64{1}, true, false, false}, {[]uint64{1}, []uint64{1, 0}, true, true, true}, {[]uint64{1}, []uint64{1, 1}, true, false, false},
		{[]uint64{1}, []uint64{2}, false, false, false}, {[]uint64{1}, []uint64{3}, true, false, false}, {[]uint64{1, 0, 0}, []uint64{3}, true, false, false},
		{[]uint64{last}, []uint64{all}, true, false, false}, {[]uint64{0, 1}, []uint64{1}, false, false, false}, {[]uint64{2, 1}, []uint64{2, 1, 0}, true, true, true},
		{[]uint64{1, 1}, []uint64{1, 2}, false, false, false}, {[]uint64{2, 1}, []uint64{1, 1}, false, false, false}, {words(64, 1), nil, false, true, false},
		{full(64), full(65), true, false, false}, {full(64), append(full(64), 0), true, true, true},
	} {
		wantInside(t, c.a, c.b, c.inside)
		wantInside(t, c.b, c.a, c.turned)
		wantSame(t, c.a, c.b, c.theSame)
		wantSame(t, c.b, c.a, c.theSame)
	}
}

// TestOneNumberMore: a set, and the same with one number more or less, at each place.
func TestOneNumberMore(t *testing.T) {
	for _, s := range sets() {
		for _, at := range []int{0, 1, 63, 64, 100, 4094, 4095} {
			with, without := bits.With(s, at), bits.Without(s, at)
			wantInside(t, without, with, true)
			wantInside(t, with, without, false)
			wantSame(t, with, without, false)
			wantSame(t, without, with, false)
			wantSame(t, s, with, has(s, at))
			wantSame(t, s, without, !has(s, at))
		}
		wantInside(t, s, s, true)
		wantSame(t, s, s, true)
		wantSame(t, s, append(slices.Clone(s), 0, 0), true)
		wantSame(t, append(slices.Clone(s), 0, 0), s, true)
		wantSame(t, s, append(slices.Clone(s), 0, last), false)
		wantInside(t, append(slices.Clone(s), 0, last), s, false)
	}
}

// P5.3: what follows

func TestOfOfList(t *testing.T) {
	for _, s := range sets() {
		low := s[:min(len(s), beyond/64)]
		wantSet(t, "Of of List", bits.Of(bits.List(low)...), shorten(low))
		wantSame(t, bits.Of(bits.List(low)...), low, true)
		// Of a set with greater numbers it is what may be put in.
		wantSet(t, "Of of List", bits.Of(bits.List(s)...), shorten(low))
	}
	for i := range beyond {
		wantList(t, "List of Of", bits.List(bits.Of(i)), []int{i})
	}
}

// TestLaws: what the calls are to one another.
func TestLaws(t *testing.T) {
	for _, a := range sets() {
		for _, b := range sets() {
			and, or, less := bits.And(a, b), bits.Or(a, b), bits.Less(a, b)
			if bits.Count(and)+bits.Count(or) != bits.Count(a)+bits.Count(b) || bits.Count(less)+bits.Count(and) != bits.Count(a) {
				t.Errorf("Counts of And, Or and Less of %.80x and %.80x", a, b)
			}
			wantSet(t, "And, turned", bits.And(b, a), and)
			wantSet(t, "Or, turned", bits.Or(b, a), or)
			wantSet(t, "Less and And", bits.Or(less, and), shorten(a))
			wantSet(t, "And of Less and b", bits.And(less, b), nil)
			wantInside(t, and, b, true)
			wantInside(t, b, or, true)
		}
	}
}

// The rules of the whole

// spoil writes over an answer, its spare room, too.
func spoil(s []uint64) {
	s = s[:cap(s)]
	for i := range s {
		s[i] = ^s[i]
	}
}

// answers are all sets that the calls answer of a and b.
func answers(a, b []uint64, list []int) [][]uint64 {
	out := [][]uint64{bits.Of(list...), bits.And(a, b), bits.Or(a, b), bits.Less(a, b), bits.And(b, a), bits.Or(b, a), bits.Less(b, a)}
	for _, i := range list {
		out = append(out, bits.With(a, i), bits.Without(a, i))
	}
	return out
}

// TestHandedInStays: neither what is handed in nor its spare room is changed, and no answer shares memory with it, or with another one (R4).
func TestHandedInStays(t *testing.T) {
	list := []int{-1, 0, 1, 63, 64, 200, 4095, 4096}
	wholeList := append(slices.Clone(list), 77, 78)
	for _, s := range sets() {
		whole := append(slices.Clone(s), 5, 6, 7)
		other := []uint64{all, 0, last, 0, 9, 9}
		was, otherWas := slices.Clone(whole), slices.Clone(other)
		a, b := whole[:len(s)], other[:4]
		want := answers(slices.Clone(a), slices.Clone(b), list)
		got := answers(a, b, wholeList[:len(list)])
		numbers := bits.List(a)
		bits.Count(a)
		bits.Inside(a, b)
		bits.Same(a, b)
		gone(bits.All(a), 3)
		for i := range got {
			wantSet(t, "an answer, behind the others' being written over", got[i], want[i])
			spoil(got[i])
		}
		clear(numbers[:cap(numbers)])
		wantSet(t, "the set that was handed in", whole, was)
		wantSet(t, "the other set that was handed in", other, otherWas)
	}
	wantList(t, "the list that was handed in", wholeList, append(slices.Clone(list), 77, 78))
}

// TestHandedOutIsNew: what is handed in may be changed behind the call, and the same is answered again (R4, R6).
func TestHandedOutIsNew(t *testing.T) {
	list := []int{0, 70, 4095}
	set := bits.Of(list...)
	clear(list)
	wantList(t, "a set whose list was cleared", bits.List(set), []int{0, 70, 4095})
	for _, s := range sets() {
		a, b := slices.Clone(s), slices.Clone(s)
		for i, got := range answers(a, b, []int{0, 64, 4096}) {
			want := slices.Clone(got)
			clear(a)
			clear(b)
			wantSet(t, "an answer whose sets were cleared", got, want)
			copy(a, s)
			copy(b, s)
			spoil(got)
			wantSet(t, "the same call's next answer", answers(a, b, []int{0, 64, 4096})[i], want)
		}
		first, second := bits.List(s), bits.List(s)
		clear(first)
		wantList(t, "another List", second, members(s))
	}
}

func TestLongSets(t *testing.T) {
	const long = 1 << 18
	s := words(long, 1)
	s[7] = last
	wantList(t, "List", bits.List(s), []int{511, 64 * long})
	wantHas(t, s, 64*long, true)
	wantHas(t, s, 64*long+1, false)
	wantSet(t, "Without", bits.Without(s, 64*long), words(7, last))
	wantSet(t, "And", bits.And(s, full(8)), words(7, last))
	wantSet(t, "Less", bits.Less(s, full(8)), words(long, 1))
	wantSame(t, s, s[:long], false)
	list := make([]int, long)
	for i := range list {
		list[i] = i
	}
	wantSet(t, "Of", bits.Of(list...), full(64))
}
