package problem_test

import (
	"math/rand"
	"reflect"
	"slices"
	"strings"
	"testing"

	"horarium/api"
	"horarium/problem"
)

// mixed are problems that may be, and that may not.
func mixed() []api.Problem {
	out := []api.Problem{good(), full(), bare(), wide(), {}, sized(size{2, 2, 2, 2, 2, 2}), sized(size{rooms: 3}), sized(size{classes: 4}), sized(size{students: 2})}
	for _, list := range faults() {
		for _, x := range list {
			out = append(out, but(good(), x.wrong))
		}
	}
	for _, k := range named() {
		for _, spoil := range k.reasons() {
			out = append(out, but(k.of(3), func(p *api.Problem) { spoil(p, 1) }))
		}
	}
	return out
}

// P17.2: Same

func TestSame(t *testing.T) {
	all := mixed()
	slices.SortFunc(all, func(a, b api.Problem) int { return strings.Compare(a.Name, b.Name) })
	for i, p := range all {
		wantSame(t, p, p, true)
		wantSame(t, p, copyOf(p), true)
		wantSame(t, p, roomy(p), true)
		for _, q := range all[:i] {
			wantSame(t, p, q, sameProblem(p, q))
		}
	}
}

// TestSameByOneAlone: each number, text and bool of a problem is changed, by little and by much, one at a time.
func TestSameByOneAlone(t *testing.T) {
	for _, p := range []api.Problem{good(), sized(size{1, 1, 2, 1, 1, 1}), bare(), {}} {
		was := copyOf(p)
		leaves(inside(&p), "", func(path string, x reflect.Value) {
			old := deep(x, 0)
			for _, by := range row(1, 2, 64, 128) {
				change(x, by)
				if problem.Same(p, was) || problem.Same(was, p) {
					t.Errorf("with another %s it is the same", path)
				}
				if !problem.Same(p, copyOf(p)) {
					t.Errorf("with another %s it is not the same as itself", path)
				}
				x.Set(old)
			}
		})
		wantSame(t, p, was, true)
	}
}

// TestSameByHighBits: a number is held against the other one whole.
func TestSameByHighBits(t *testing.T) {
	p := good()
	was := copyOf(p)
	leaves(inside(&p), "", func(path string, x reflect.Value) {
		old := deep(x, 0)
		for _, by := range row(1<<8, 1<<16, 1<<32, -1<<63) {
			if x.Kind() == reflect.Int {
				change(x, by)
				if problem.Same(p, was) || problem.Same(was, p) {
					t.Errorf("with %s higher by %d it is the same", path, by)
				}
			}
			x.Set(old)
		}
	})
}

// TestSameByName: each byte of a name is looked at.
func TestSameByName(t *testing.T) {
	p := good()
	was := copyOf(p)
	leaves(inside(&p), "", func(path string, x reflect.Value) {
		if x.Kind() != reflect.String {
			return
		}
		s := x.String()
		for _, other := range []string{"", s[1:], s[:len(s)-1], " " + s, s + "\x00", strings.ToUpper(s), s + s} {
			x.SetString(other)
			if problem.Same(p, was) || problem.Same(was, p) {
				t.Errorf("with %s %q it is the same as with %q", path, other, s)
			}
		}
		x.SetString(s)
	})
}

// TestSameByRow: a row has one more or less, at each place.
func TestSameByRow(t *testing.T) {
	p := good()
	was := copyOf(p)
	rows(inside(&p), "", func(path string, x reflect.Value) {
		old, n := deep(x, 0), x.Len()
		if n == 0 {
			return
		}
		others := map[string]reflect.Value{
			"without any":       reflect.Zero(x.Type()),
			"without the last":  x.Slice(0, n-1),
			"without the first": x.Slice(1, n),
			"with a zero more":  reflect.Append(x, reflect.Zero(x.Type().Elem())),
			"with the last one": reflect.Append(x, x.Index(n-1)),
			"twice":             reflect.AppendSlice(x, x),
		}
		for how, other := range others {
			x.Set(other)
			if problem.Same(p, was) || problem.Same(was, p) {
				t.Errorf("with %s %s it is the same", path, how)
			}
			x.Set(old)
		}
	})
	wantSame(t, p, was, true)
}

// TestSameByOrder: each two of a row, next to each other and apart, stand in one another's place.
func TestSameByOrder(t *testing.T) {
	p := good()
	was := copyOf(p)
	rows(inside(&p), "", func(path string, x reflect.Value) {
		for i := range x.Len() {
			for j := range i {
				one, other := deep(x.Index(i), 0), deep(x.Index(j), 0)
				x.Index(i).Set(other)
				x.Index(j).Set(one)
				same := reflect.DeepEqual(one.Interface(), other.Interface())
				if problem.Same(p, was) != same || problem.Same(was, p) != same {
					t.Errorf("with %s %d in the place of %d Same is not %v", path, i, j, same)
				}
				x.Index(i).Set(one)
				x.Index(j).Set(other)
			}
		}
	})
	wantSame(t, p, was, true)
}

// TestSameOfNilAndEmpty: a row without things may be either.
func TestSameOfNilAndEmpty(t *testing.T) {
	p := but(good(), func(p *api.Problem) {
		p.Rooms[1].Shut, p.Persons[1].Away, p.Students[1].Courses, p.Rules[1].Classes = nil, nil, nil, nil
		p.Classes[1].Persons, p.Classes[2].Times, p.Classes[3].Places = nil, nil, nil
		p.Courses[0].Ways, p.Courses[1].Ways[0].Parts, p.Courses[2].Ways[0].Parts[0], p.Walk[2] = nil, nil, nil, nil
	})
	for _, p := range []api.Problem{p, bare(), {}} {
		empty := 0
		rows(inside(&p), "", func(path string, x reflect.Value) {
			if x.Len() > 0 {
				return
			}
			empty++
			was := copyOf(p)
			x.Set(reflect.MakeSlice(x.Type(), 0, 3))
			if !problem.Same(p, was) || !problem.Same(was, p) {
				t.Errorf("with an empty %s in the place of a nil one it is another one", path)
			}
		})
		if empty < 7 {
			t.Fatalf("there are %d rows without things", empty)
		}
		wantSame(t, p, plain(p), true)
	}
}

func TestSameByChance(t *testing.T) {
	chance := rand.New(rand.NewSource(4))
	for range 2000 {
		p, q := good(), good()
		for range chance.Intn(3) {
			anyWrong(chance, &p)
		}
		for range chance.Intn(2) {
			anyWrong(chance, &q)
		}
		wantSame(t, p, q, sameProblem(p, q))
	}
}

// P17.2: Copy

func TestCopy(t *testing.T) {
	for _, p := range mixed() {
		for _, p := range []api.Problem{p, roomy(p), plain(p)} {
			got := problem.Copy(p)
			if !sameProblem(got, p) || !problem.Same(got, p) {
				t.Fatalf("the copy of %+v is %+v", p, got)
			}
		}
	}
}

// TestCopyOfWild: what stands in a problem is copied as it is, whatever it is.
func TestCopyOfWild(t *testing.T) {
	for _, n := range wild() {
		p := good()
		leaves(inside(&p), "", func(_ string, x reflect.Value) {
			if x.Kind() == reflect.Int {
				x.SetInt(int64(n))
			} else {
				change(x, n&7)
			}
		})
		if got := problem.Copy(p); !sameProblem(got, p) {
			t.Fatalf("the copy of %+v is %+v", p, got)
		}
	}
}

// span is the memory of a row, its spare room too.
type span struct {
	path     string
	from, to uintptr
}

func spans(p *api.Problem) []span {
	var out []span
	rows(inside(p), "", func(path string, x reflect.Value) {
		if size := uintptr(x.Cap()) * x.Type().Elem().Size(); size > 0 {
			out = append(out, span{path, x.Pointer(), x.Pointer() + size})
		}
	})
	return out
}

// wantApart: no row of a has memory of one of b.
func wantApart(t *testing.T, a, b []span) {
	t.Helper()
	for i, x := range a {
		for j, y := range b {
			if x.from < y.to && y.from < x.to {
				t.Errorf("%s (row %d) and %s (row %d) have memory in common", x.path, i, y.path, j)
			}
		}
	}
}

// TestCopyIsNew: no row of a copy has memory of the problem's, of another copy's, or of another row's.
func TestCopyIsNew(t *testing.T) {
	shared := good()
	shared.Persons[0].Away = shared.Rooms[0].Shut
	shared.Students[1].Courses = shared.Classes[1].Persons[:1]
	shared.Walk[2] = shared.Walk[1]
	shared.Courses[1] = shared.Courses[0]
	shared.Rules[1].Classes = shared.Rules[0].Classes
	for _, p := range []api.Problem{good(), full(), roomy(good()), roomy(bare()), shared} {
		one, other := problem.Copy(p), problem.Copy(p)
		wantApart(t, spans(&one), spans(&p))
		wantApart(t, spans(&one), spans(&other))
		for i, all := 0, spans(&one); i < len(all); i++ {
			wantApart(t, all[:i], all[i:i+1])
		}
	}
}

// spoilRow writes over all that stands in a row, its spare room too.
func spoilRow(x reflect.Value) {
	all := x.Slice(0, x.Cap())
	for i := range all.Len() {
		leaves(all.Index(i), "", func(_ string, x reflect.Value) { change(x, 5) })
	}
}

// TestCopyStays: who writes over any row of one of both, or grows it, does not change the other one.
func TestCopyStays(t *testing.T) {
	for _, p := range []api.Problem{good(), roomy(good()), but(good(), func(p *api.Problem) { p.Rooms[0].Shut, p.Students = p.Rooms[0].Shut[:0], p.Students[:0] })} {
		was, all := copyOf(p), whole(p)
		places := len(spans(&p))
		for i := range places {
			for _, how := range []func(x reflect.Value){
				spoilRow,
				func(x reflect.Value) { x.Set(reflect.Append(x, reflect.Zero(x.Type().Elem()))) },
				func(x reflect.Value) { x.Set(x.Slice(0, 0)) },
			} {
				taken := 0
				visit := func(_ string, x reflect.Value) {
					if taken == i {
						how(x)
					}
					taken++
				}
				c := problem.Copy(p)
				rows(inside(&c), "", visit)
				if !reflect.DeepEqual(whole(p), all) {
					t.Fatalf("row %d of the copy is a row of the problem", i)
				}
				mine := roomy(was)
				c = problem.Copy(mine)
				taken = 0
				rows(inside(&mine), "", visit)
				if !sameProblem(c, was) {
					t.Fatalf("row %d of the problem is a row of the copy", i)
				}
			}
		}
	}
}

// P17.4: what follows

func TestCopyMayBe(t *testing.T) {
	right := 0
	for _, p := range mixed() {
		err, n := problem.Check(p)
		c := problem.Copy(p)
		wantCheck(t, c, err, n)
		wantSame(t, p, c, true)
		wantSame(t, problem.Copy(c), p, true)
		if problem.Right(p) != problem.Right(c) {
			t.Errorf("Right is %v, and of the copy %v", problem.Right(p), problem.Right(c))
		}
		if problem.Right(c) {
			right++
		}
	}
	if right < 7 {
		t.Errorf("%d problems may be", right)
	}
}

// R4, R6: what is handed in stays, and what is answered is the same again

// askAll does all calls that are handed a problem.
func askAll(p api.Problem) {
	problem.Check(p)
	problem.Right(p)
	problem.Same(p, good())
	problem.Same(good(), p)
	problem.Same(p, copyOf(p))
	problem.Copy(p)
	problem.Plans(p, 1000)
	for _, find := range finds() {
		find.find(p, "n1")
	}
	for a := -1; a < 9; a++ {
		for b := -1; b < 9; b++ {
			problem.Share(p, a, b)
		}
	}
	for _, r := range p.Rules {
		problem.Rule(len(p.Classes), r)
	}
}

func TestNothingIsChanged(t *testing.T) {
	unsorted := but(good(), func(p *api.Problem) {
		p.Classes[0].Persons, p.Classes[1].Persons = row(5, 2, 4, 2), row(4, 5, 5, 2)
		p.Rules[0].Classes, p.Students[0].Courses = row(6, 0, 3), row(3, 1, 2)
		p.Courses[0].Ways[0].Parts[0] = row(5, 1)
	})
	for _, p := range append(mixed(), unsorted) {
		for _, p := range []api.Problem{copyOf(p), roomy(p)} {
			was, all := copyOf(p), whole(p)
			askAll(p)
			if !reflect.DeepEqual(copyOf(p), was) || !reflect.DeepEqual(whole(p), all) {
				t.Fatalf("%+v is another one: %+v", all, whole(p))
			}
		}
	}
}

// TestShareIsNew: who writes over it changes neither the problem nor the next one.
func TestShareIsNew(t *testing.T) {
	for _, p := range []api.Problem{good(), roomy(good())} {
		all := whole(p)
		for a := range p.Classes {
			for b := range p.Classes {
				want := slices.Clone(problem.Share(p, a, b))
				got := problem.Share(p, a, b)
				for i := range got[:cap(got)] {
					got[:cap(got)][i] = -7
				}
				wantShare(t, p, a, b, want...)
				if !reflect.DeepEqual(whole(p), all) {
					t.Fatalf("Share of %d and %d is a row of the problem", a, b)
				}
			}
		}
	}
}

// TestNothingIsKept: what is handed in and changed behind the call changes no answer.
func TestNothingIsKept(t *testing.T) {
	p := good()
	c, share := problem.Copy(p), problem.Share(p, 0, 1)
	want := slices.Clone(share)
	rows(inside(&p), "", func(_ string, x reflect.Value) { spoilRow(x) })
	wantSame(t, c, good(), true)
	if len(want) == 0 || !slices.Equal(share, want) {
		t.Errorf("Share is %v, was %v", share, want)
	}
	wantThat(t, p)
}

// TestAgain: what was asked ahead changes no answer.
func TestAgain(t *testing.T) {
	wrong := but(good(), func(p *api.Problem) { p.Rooms[2].Name = "n0" })
	for range 3 {
		wantCheck(t, good(), api.OK, 0)
		wantCheck(t, wrong, api.ErrRoom, 2)
		wantSame(t, good(), wrong, false)
		wantSame(t, good(), problem.Copy(good()), true)
		wantPlans(t, good(), 1000, 1000)
		wantPlans(t, wrong, 1000, 0)
		wantShare(t, good(), 0, 1, 1, 2)
		wantShare(t, bare(), 0, 1)
		wantRule(t, 2, ofKind(api.Folk, 0, 1), true)
		wantRule(t, 1, ofKind(api.Folk, 0, 1), false)
		askAll(wrong)
		askAll(full())
	}
}
