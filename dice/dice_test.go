package dice_test

import (
	"math"
	"math/big"
	"math/rand"
	"slices"
	"testing"

	"horarium/api"
	"horarium/dice"
	"horarium/sum"
)

const (
	stride   uint64 = 0x9e3779b97f4a7c15
	over            = ^stride + 1 // the least state of which a throw goes over 2^64
	heaviest        = 1000000
	most            = 10000 // so many weights, and so many numbers in a row, there may be
)

// states are such over the whole range, those among them at which a throw goes over 2^64, and some by chance, the same in each run.
func states() []uint64 {
	out := []uint64{0, 1, 2, 42, stride - 1, stride, stride + 1, over - 2, over - 1, over, over + 1, over + 2, 2 * over, math.MaxUint64 - 1, math.MaxUint64, 0xaaaaaaaaaaaaaaaa, 0x5555555555555555}
	for i := range 64 {
		out = append(out, 1<<i, 1<<i-1, math.MaxUint64<<i, over+1<<i, over-1<<i)
	}
	chance := rand.New(rand.NewSource(1))
	for range 200 {
		out = append(out, chance.Uint64()>>chance.Intn(64))
	}
	return out
}

// few are some of the states, for what takes long.
func few() []uint64 {
	return []uint64{0, 1, 42, over - 1, over, 1 << 63, math.MaxUint64}
}

// below0 are numbers below 0.
func below0() []int {
	return []int{-1, -2, -3, -most, -heaviest, math.MinInt32, -1 << 40, -math.MaxInt, math.MinInt}
}

// before are the dice whose next number is that.
func before(number uint64) api.Dice {
	return api.Dice{State: sum.Unmix(number) - stride}
}

// The chapter's words once more, by means of their own

// behind are the dice behind so many throws of d.
func behind(d api.Dice, throws int) api.Dice {
	state := new(big.Int).Mul(big.NewInt(int64(throws)), new(big.Int).SetUint64(stride))
	state.Add(state, new(big.Int).SetUint64(d.State))
	return api.Dice{State: state.Mod(state, new(big.Int).Lsh(big.NewInt(1), 64)).Uint64()}
}

// thrown is the number that the last one of so many throws of d tells.
func thrown(d api.Dice, throws int) uint64 {
	return sum.Mix(behind(d, throws).State)
}

// ups are, of each place, its weight and those ahead together.
func ups(weights []int) []uint64 {
	out, up := []uint64{}, uint64(0)
	for _, w := range weights {
		switch {
		case w > heaviest:
			up += heaviest
		case w > 0:
			up += uint64(w)
		}
		out = append(out, up)
	}
	return out
}

// picked is what Pick answers.
func picked(d api.Dice, weights []int) (int, api.Dice) {
	l := ups(weights)
	if len(l) == 0 || len(l) > most || l[len(l)-1] == 0 {
		return -1, d
	}
	r := thrown(d, 1) % l[len(l)-1]
	return slices.IndexFunc(l, func(up uint64) bool { return up > r }), behind(d, 1)
}

// rising is 0 to n - 1 in a row.
func rising(n int) []int {
	var row []int
	for i := range n {
		row = append(row, i)
	}
	return row
}

// shuffled is what Shuffle answers, if n is neither below 0 nor too great.
func shuffled(d api.Dice, n int) ([]int, api.Dice) {
	row, throws := rising(n), 0
	for i := n - 1; i >= 1; i-- {
		throws++
		j := thrown(d, throws) % uint64(i+1)
		row[i], row[j] = row[j], row[i]
	}
	return row, behind(d, throws)
}

func wantDice(t *testing.T, call string, of, got, want api.Dice) {
	t.Helper()
	if got != want {
		t.Errorf("%s of the dice %#x tells the dice %#x, want %#x", call, of.State, got.State, want.State)
	}
}

func wantNext(t *testing.T, d api.Dice, want uint64, then api.Dice) {
	t.Helper()
	got, after := dice.Next(d)
	if got != want {
		t.Errorf("Next of the dice %#x is %#x, want %#x", d.State, got, want)
	}
	wantDice(t, "Next", d, after, then)
}

func wantBelow(t *testing.T, d api.Dice, n, want int, then api.Dice) {
	t.Helper()
	got, after := dice.Below(d, n)
	if got != want {
		t.Errorf("Below(%d) of the dice %#x is %d, want %d", n, d.State, got, want)
	}
	wantDice(t, "Below", d, after, then)
}

func wantPick(t *testing.T, d api.Dice, weights []int, want int, then api.Dice) {
	t.Helper()
	got, after := dice.Pick(d, weights)
	if got != want {
		t.Errorf("Pick of the dice %#x and %d weights, %d, is %d, want %d", d.State, len(weights), weights[:min(len(weights), 8)], got, want)
	}
	wantDice(t, "Pick", d, after, then)
}

func wantShuffle(t *testing.T, d api.Dice, n int, want []int, then api.Dice) {
	t.Helper()
	got, after := dice.Shuffle(d, n)
	if !slices.Equal(got, want) {
		t.Errorf("Shuffle(%d) of the dice %#x is %d (%d numbers), want %d (%d numbers)", n, d.State, got[:min(len(got), 12)], len(got), want[:min(len(want), 12)], len(want))
	}
	wantDice(t, "Shuffle", d, after, then)
}

func wantSkip(t *testing.T, d api.Dice, n int, want api.Dice) {
	t.Helper()
	if got := dice.Skip(d, n); got != want {
		t.Errorf("Skip(%d) of the dice %#x tells %#x, want %#x", n, d.State, got.State, want.State)
	}
}

// The chapter's examples

func TestExample(t *testing.T) {
	for _, state := range states() {
		d := dice.New(state)
		_, then := dice.Next(d)
		wantBelow(t, d, 1, 0, then)
	}
}

// P8.1: New, Next, Skip

func TestNew(t *testing.T) {
	for _, state := range states() {
		if got := dice.New(state); got != (api.Dice{State: state}) {
			t.Errorf("New(%#x) is %#x", state, got.State)
		}
	}
}

func TestKnownNumbers(t *testing.T) {
	for _, c := range []struct {
		seed    uint64
		numbers [3]uint64
		then    uint64
	}{
		{0, [3]uint64{0x36615752e4a1f706, 0xdb342bf334968753, 0xc8e6679ebafe2ffb}, 0xdaa66d2c7ddf743f},
		{1, [3]uint64{0x687e88cea07cbf23, 0x8c934afefb122a35, 0xd9597dd1e41fb11b}, 0xdaa66d2c7ddf7440},
		{42, [3]uint64{0x75c67a1fc893149a, 0xbdf2de584dc85b95, 0xd87a0f99b8a33a7b}, 0xdaa66d2c7ddf7469},
		{math.MaxUint64, [3]uint64{0x48f5b0d01db70557, 0x52e3283d4ee4242c, 0x807526ba2f1844e8}, 0xdaa66d2c7ddf743e},
		{0x61c8864680b583ea, [3]uint64{0x38895f6f6aeea8e7, 0x48f5b0d01db70557, 0x52e3283d4ee4242c}, 0x3c6ef372fe94f829},
		{0x61c8864680b583eb, [3]uint64{0, 0x36615752e4a1f706, 0xdb342bf334968753}, 0x3c6ef372fe94f82a},
		{0x61c8864680b583ec, [3]uint64{0xd8685893e3d7d0e9, 0x687e88cea07cbf23, 0x8c934afefb122a35}, 0x3c6ef372fe94f82b},
		{1 << 63, [3]uint64{0xed9a15f91a4b43a9, 0x84c2708aed14437e, 0x71040ff95469cc38}, 0x5aa66d2c7ddf743f},
		{0x0123456789abcdef, [3]uint64{0xc61e97f7d3dae199, 0x6f5302069a02e762, 0x1da042c9a497bc19}, 0xdbc9b294078b422e},
	} {
		d := dice.New(c.seed)
		for i, want := range c.numbers {
			got, then := dice.Next(d)
			if got != want {
				t.Errorf("the number %d of New(%#x) is %#x, want %#x", i, c.seed, got, want)
			}
			d = then
		}
		wantDice(t, "Next, three times,", dice.New(c.seed), d, api.Dice{State: c.then})
	}
}

func TestNext(t *testing.T) {
	for _, state := range states() {
		d := dice.New(state)
		wantNext(t, d, thrown(d, 1), behind(d, 1))
	}
}

// TestNextAgainAndAgain: each one of the dice that the one ahead tells.
func TestNextAgainAndAgain(t *testing.T) {
	for _, state := range few() {
		start := dice.New(state)
		d := start
		for throws := 1; throws <= 2000; throws++ {
			wantNext(t, d, thrown(start, throws), behind(start, throws))
			_, d = dice.Next(d)
		}
	}
}

// TestNextTellsEachNumber: also the least and the greatest ones.
func TestNextTellsEachNumber(t *testing.T) {
	for _, number := range states() {
		d := before(number)
		wantNext(t, d, number, behind(d, 1))
	}
}

// TestSkipIsThrows: Skip of few throws is as many of them.
func TestSkipIsThrows(t *testing.T) {
	for _, state := range states() {
		start := dice.New(state)
		d := start
		for throws := range 50 {
			wantSkip(t, start, throws, d)
			_, d = dice.Next(d)
		}
	}
}

func TestSkipIsManyThrows(t *testing.T) {
	for _, state := range few() {
		start := dice.New(state)
		d := start
		for throws := range 100001 {
			if throws%999 == 0 || throws > 99998 {
				wantSkip(t, start, throws, d)
			}
			_, d = dice.Next(d)
		}
	}
}

// TestSkipFar: so far that nobody throws so often.
func TestSkipFar(t *testing.T) {
	far := []int{heaviest, math.MaxInt32, math.MaxInt32 + 1, math.MaxUint32, 1 << 32, 1 << 40, 1 << 62, math.MaxInt - 1, math.MaxInt}
	for _, state := range states() {
		d := dice.New(state)
		for _, n := range far {
			wantSkip(t, d, n, behind(d, n))
			wantNext(t, dice.Skip(d, n-1), thrown(d, n), behind(d, n))
			wantSkip(t, dice.Skip(d, n/3), n-n/3, dice.Skip(d, n))
		}
	}
}

func TestSkipNone(t *testing.T) {
	for _, state := range states() {
		d := dice.New(state)
		wantSkip(t, d, 0, d)
		for _, n := range below0() {
			wantSkip(t, d, n, d)
		}
	}
}

// P8.2: Below

func TestKnownBelow(t *testing.T) {
	l := []int{1, 2, 3, 7, 10, 100, heaviest, math.MaxInt32, math.MaxInt}
	for seed, wants := range map[uint64][]int{
		0:              {0, 0, 2, 0, 2, 42, 796742, 1365550508, 3918509164323796742},
		1:              {0, 1, 2, 3, 7, 67, 218467, 1903808705, 7529606048047218467},
		42:             {0, 0, 2, 5, 4, 14, 935514, 874514651, 8486604824753935514},
		math.MaxUint64: {0, 1, 0, 0, 5, 75, 141975, 799172344, 5257302547923141975},
	} {
		for i, n := range l {
			wantBelow(t, dice.New(seed), n, wants[i], behind(dice.New(seed), 1))
		}
	}
}

// TestBelowIsTheRest: of next numbers over the whole range, those about each n and at the range's end among them.
func TestBelowIsTheRest(t *testing.T) {
	for _, n := range []int{1, 2, 3, 7, 10, 256, 1000, heaviest, math.MaxInt32, math.MaxInt32 + 1, math.MaxUint32, 1 << 40, 1<<62 + 1, math.MaxInt - 1, math.MaxInt} {
		u := uint64(n)
		for _, number := range append(states(), u-2, u-1, u, u+1, 2*u-1, 2*u, math.MaxUint64/u*u-1, math.MaxUint64/u*u) {
			d := before(number)
			wantBelow(t, d, n, int(number%u), behind(d, 1))
		}
	}
}

// TestBelowTellsEachOne: all that is below n, 0 and n - 1 among them, and nothing else.
func TestBelowTellsEachOne(t *testing.T) {
	for n := 1; n <= 60; n++ {
		for number := range 3 * n {
			d := before(uint64(number))
			wantBelow(t, d, n, number%n, behind(d, 1))
		}
	}
}

func TestBelowOfTheGreatestInt(t *testing.T) {
	for number, want := range map[uint64]int{
		0: 0, 1: 1, math.MaxInt - 1: math.MaxInt - 1, math.MaxInt: 0, math.MaxInt + 1: 1, math.MaxUint64 - 2: math.MaxInt - 1, math.MaxUint64 - 1: 0, math.MaxUint64: 1,
	} {
		d := before(number)
		wantBelow(t, d, math.MaxInt, want, behind(d, 1))
	}
}

func TestBelowRefused(t *testing.T) {
	for _, state := range states() {
		d := dice.New(state)
		for _, n := range append(below0(), 0) {
			wantBelow(t, d, n, 0, d)
		}
	}
}

// P8.2: Pick

func TestKnownPicks(t *testing.T) {
	rows := [][]int{{5}, {1, 1}, {1, 2, 3, 4}, {0, 0, 7, 0, 1}, {-5, 3, -1, 3}, {heaviest + 1, heaviest}, {math.MaxInt, 1, heaviest}}
	for seed, wants := range map[uint64][]int{
		0:              {0, 0, 1, 2, 1, 1, 0},
		1:              {0, 1, 3, 2, 3, 1, 0},
		42:             {0, 0, 2, 2, 1, 1, 2},
		math.MaxUint64: {0, 1, 2, 4, 3, 1, 2},
	} {
		for i, weights := range rows {
			wantPick(t, dice.New(seed), weights, wants[i], behind(dice.New(seed), 1))
		}
	}
}

// light are rows of light weights, of which some are 0, or below, at the start, at the end and between.
func light() [][]int {
	return [][]int{
		{1}, {7}, {1, 1}, {3, 2}, {1, 2, 3, 4}, {4, 3, 2, 1}, {0, 1}, {1, 0}, {0, 3, 0}, {0, 0, 0, 5}, {5, 0, 0, 0}, {2, 0, 3}, {2, 0, 0, 0, 3}, {0, 0, 2, 0, 0, 3, 0, 0},
		{-1, 2}, {2, -1}, {2, -1, 3}, {math.MinInt, 2, math.MinInt, 3, math.MinInt}, {-5, 0, 4, -2, 0, 1, 0, -9}, {-3, 3}, {3, -3, 1}, {-7, 3, -7},
	}
}

// TestPickEachRest: of each row each rest there can be, also of numbers far up; a place stands for as many rests as it weighs.
func TestPickEachRest(t *testing.T) {
	for _, weights := range light() {
		var places []int
		for place, w := range weights {
			for range w {
				places = append(places, place)
			}
		}
		together := uint64(len(places))
		for rest, place := range places {
			for _, times := range []uint64{0, 1, 5, 1 << 40, math.MaxUint64/together - 1} {
				d := before(uint64(rest) + times*together)
				wantPick(t, d, weights, place, behind(d, 1))
			}
		}
	}
}

// TestPickOfOne: whatever it weighs, the place is 0, and it is thrown.
func TestPickOfOne(t *testing.T) {
	for _, state := range states() {
		d := dice.New(state)
		for _, weight := range []int{1, 2, 3, heaviest - 1, heaviest, heaviest + 1, math.MaxInt32, math.MaxInt - 1, math.MaxInt} {
			wantPick(t, d, []int{weight}, 0, behind(d, 1))
		}
	}
}

// heavy are rows with weights at the greatest one, and beyond.
func heavy() [][]int {
	return [][]int{
		{heaviest, 1}, {1, heaviest}, {heaviest - 1, 1}, {heaviest + 1, 1}, {1, heaviest + 1}, {math.MaxInt, 1}, {1, math.MaxInt}, {math.MaxInt, math.MaxInt}, {math.MaxInt, math.MaxInt, math.MaxInt},
		{0, heaviest, 0, heaviest + 1, 0, math.MaxInt, 0}, {math.MinInt, math.MaxInt, -1, 5, math.MaxInt - 1}, {math.MaxInt, math.MinInt, 3}, {math.MaxInt32, math.MaxInt32 + 1, heaviest}, {5, math.MaxInt, 5, heaviest - 1},
		slices.Repeat([]int{1}, most), slices.Repeat([]int{heaviest}, most), slices.Repeat([]int{math.MaxInt}, most), slices.Repeat([]int{0, 2, -1, math.MaxInt}, most/4), rising(most),
	}
}

// TestPickAtEachEdge: the least and the greatest rest of which each place is told, no place of a weight of 0 or below being one.
func TestPickAtEachEdge(t *testing.T) {
	for _, weights := range append(heavy(), light()...) {
		l := ups(weights)
		step := 1
		if len(l) > 100 {
			step = 499
		}
		for place := 0; place < len(l); place += step {
			ahead := uint64(0)
			if place > 0 {
				ahead = l[place-1]
			}
			if l[place] == ahead {
				continue
			}
			for _, rest := range []uint64{ahead, l[place] - 1, ahead + l[len(l)-1], l[place] - 1 + 1000*l[len(l)-1]} {
				wantPick(t, before(rest), weights, place, behind(before(rest), 1))
			}
		}
	}
}

// TestPickCapped: a weight above the greatest one, and one below 0, is as if it were that one, and 0.
func TestPickCapped(t *testing.T) {
	for _, state := range states() {
		d := dice.New(state)
		want, then := picked(d, []int{heaviest, 0, 3, heaviest})
		for _, high := range []int{heaviest, heaviest + 1, 2 * heaviest, math.MaxInt32, math.MaxUint32, 1 << 40, math.MaxInt - 1, math.MaxInt} {
			for _, low := range append(below0(), 0) {
				wantPick(t, d, []int{high, low, 3, high}, want, then)
			}
		}
	}
}

// TestPickOneOfMany: of the most weights there may be, all but one are 0.
func TestPickOneOfMany(t *testing.T) {
	for _, place := range []int{0, 1, most / 2, most - 2, most - 1} {
		for _, weight := range []int{1, 2, heaviest, math.MaxInt} {
			weights := make([]int, most)
			weights[place] = weight
			for _, state := range few() {
				wantPick(t, dice.New(state), weights, place, behind(dice.New(state), 1))
			}
		}
	}
}

func TestPickNothing(t *testing.T) {
	for _, weights := range [][]int{
		nil, {}, {0}, {0, 0}, {0, 0, 0, 0}, {-1}, below0(), {0, -1, 0}, {math.MinInt, math.MinInt}, make([]int, most), slices.Repeat([]int{-1}, most), slices.Repeat([]int{math.MinInt}, most),
		make([]int, most+1), slices.Repeat([]int{1}, most+1), slices.Repeat([]int{math.MaxInt}, most+1), slices.Repeat([]int{math.MinInt}, most+1), append([]int{5}, make([]int, most)...), slices.Repeat([]int{1}, 2*most), slices.Repeat([]int{1}, heaviest),
	} {
		for _, state := range few() {
			wantPick(t, dice.New(state), weights, -1, dice.New(state))
		}
	}
	for _, state := range states() {
		wantPick(t, dice.New(state), nil, -1, dice.New(state))
		wantPick(t, dice.New(state), []int{0, -1}, -1, dice.New(state))
	}
}

// someWeights are weights by chance, of all kinds.
func someWeights(chance *rand.Rand) []int {
	weights := make([]int, chance.Intn(30))
	for i := range weights {
		switch chance.Intn(6) {
		case 0:
			weights[i] = 0
		case 1:
			weights[i] = -chance.Int()
		case 2:
			weights[i] = chance.Int()
		case 3:
			weights[i] = heaviest - 2 + chance.Intn(5)
		default:
			weights[i] = chance.Intn(10)
		}
	}
	return weights
}

func TestPickByChance(t *testing.T) {
	chance := rand.New(rand.NewSource(2))
	for range 20000 {
		d, weights := dice.New(chance.Uint64()), someWeights(chance)
		want, then := picked(d, weights)
		wantPick(t, d, weights, want, then)
	}
}

// TestWeightsStay: neither they nor their spare room are changed.
func TestWeightsStay(t *testing.T) {
	for _, weights := range append(append(heavy(), light()...), []int{}, []int{0, -1}, rising(most+1)) {
		row := append(slices.Clone(weights), 11, 22, 33)
		was := slices.Clone(row)
		for _, state := range few() {
			dice.Pick(dice.New(state), row[:len(weights)])
		}
		if !slices.Equal(row, was) {
			t.Errorf("Pick changed %d weights, or what stands behind them", len(weights))
		}
	}
}

// P8.2: Shuffle

func TestKnownShuffles(t *testing.T) {
	for _, c := range []struct {
		seed uint64
		row  []int
		then uint64
	}{
		{0, []int{1, 0}, 0x9e3779b97f4a7c15},
		{0, []int{0, 1, 2}, 0x3c6ef372fe94f82a},
		{0, []int{0, 4, 1, 3, 2}, 0x78dde6e5fd29f054},
		{0, []int{4, 6, 8, 5, 1, 7, 0, 3, 9, 2}, 0x8ff34785799e5cbd},
		{1, []int{0, 1}, 0x9e3779b97f4a7c16},
		{1, []int{0, 3, 4, 1, 2}, 0x78dde6e5fd29f055},
		{1, []int{9, 8, 1, 0, 5, 6, 2, 3, 4, 7}, 0x8ff34785799e5cbe},
		{42, []int{0, 3, 2, 1, 4}, 0x78dde6e5fd29f07e},
		{42, []int{9, 8, 0, 2, 6, 1, 5, 3, 7, 4}, 0x8ff34785799e5ce7},
		{math.MaxUint64, []int{1, 2, 0}, 0x3c6ef372fe94f829},
		{math.MaxUint64, []int{1, 2, 3, 4, 0}, 0x78dde6e5fd29f053},
		{math.MaxUint64, []int{1, 3, 4, 9, 6, 2, 8, 0, 7, 5}, 0x8ff34785799e5cbc},
	} {
		wantShuffle(t, dice.New(c.seed), len(c.row), c.row, api.Dice{State: c.then})
	}
}

// TestKnownLongShuffles: the first four numbers, and the last four, of the longest row there may be.
func TestKnownLongShuffles(t *testing.T) {
	for seed, want := range map[uint64][]int{
		0:              {7762, 1267, 2533, 6280, 9886, 9617, 3161, 6742},
		1:              {4069, 9446, 3693, 4864, 1100, 6215, 823, 8467},
		42:             {9057, 194, 3326, 6290, 1444, 4701, 6334, 5514},
		math.MaxUint64: {7910, 1065, 6673, 7192, 3383, 3122, 1591, 1975},
	} {
		row, then := dice.Shuffle(dice.New(seed), most)
		if len(row) != most {
			t.Fatalf("Shuffle(%d) of New(%#x) has %d numbers", most, seed, len(row))
		}
		if ends := slices.Concat(row[:4], row[most-4:]); !slices.Equal(ends, want) {
			t.Errorf("Shuffle(%d) of New(%#x) has %d at its ends, want %d", most, seed, ends, want)
		}
		wantDice(t, "Shuffle", dice.New(seed), then, behind(dice.New(seed), most-1))
	}
}

// TestShuffleOfNoneAndOfOne: there is nothing to be thrown.
func TestShuffleOfNoneAndOfOne(t *testing.T) {
	for _, state := range states() {
		d := dice.New(state)
		wantShuffle(t, d, 0, nil, d)
		wantShuffle(t, d, 1, []int{0}, d)
	}
}

func TestShuffleOfTwo(t *testing.T) {
	for _, number := range states() {
		d, want := before(number), []int{1, 0}
		if number%2 == 1 {
			want = []int{0, 1}
		}
		wantShuffle(t, d, 2, want, behind(d, 1))
	}
}

func TestShuffle(t *testing.T) {
	for _, state := range states() {
		d := dice.New(state)
		for n := range 25 {
			want, then := shuffled(d, n)
			wantShuffle(t, d, n, want, then)
		}
	}
}

func TestLongShuffle(t *testing.T) {
	for _, state := range few() {
		d := dice.New(state)
		for _, n := range []int{100, 1000, most - 1, most} {
			want, then := shuffled(d, n)
			wantShuffle(t, d, n, want, then)
		}
	}
}

func TestShuffleRefused(t *testing.T) {
	for _, state := range states() {
		d := dice.New(state)
		for _, n := range append(below0(), most+1, most+2, 2*most, heaviest, math.MaxInt32, 1<<40, math.MaxInt-1, math.MaxInt) {
			wantShuffle(t, d, n, nil, d)
		}
	}
}

// TestShuffleIsNew: whoever changes a row that was told changes no other one.
func TestShuffleIsNew(t *testing.T) {
	for _, n := range []int{1, 2, 10, 1000, most} {
		d := dice.New(42)
		want, then := shuffled(d, n)
		one, _ := dice.Shuffle(d, n)
		two, _ := dice.Shuffle(d, n)
		clear(one)
		if !slices.Equal(two, want) {
			t.Errorf("Shuffle(%d) is another one, when the one ahead is changed", n)
		}
		wantShuffle(t, d, n, want, then)
	}
}

// P8.3: what follows

func wantEachOnce(t *testing.T, d api.Dice, n int) {
	t.Helper()
	row, _ := dice.Shuffle(d, n)
	slices.Sort(row)
	if !slices.Equal(row, rising(n)) {
		t.Errorf("Shuffle(%d) of the dice %#x has not each number once", n, d.State)
	}
}

func TestShuffleHasEachNumberOnce(t *testing.T) {
	for _, state := range states() {
		for n := range 40 {
			wantEachOnce(t, dice.New(state), n)
		}
	}
	for _, state := range few() {
		for _, n := range []int{100, 1000, most - 1, most} {
			wantEachOnce(t, dice.New(state), n)
		}
	}
}

// TestNoWeightIsNotPicked: whatever stands about the weights of 0, or below.
func TestNoWeightIsNotPicked(t *testing.T) {
	chance := rand.New(rand.NewSource(3))
	for range 50000 {
		weights := someWeights(chance)
		d := dice.New(chance.Uint64())
		if chance.Intn(2) == 0 {
			d = before(chance.Uint64() >> chance.Intn(64))
		}
		place, _ := dice.Pick(d, weights)
		if place >= 0 && weights[place] <= 0 || place < 0 && slices.ContainsFunc(weights, func(w int) bool { return w > 0 }) {
			t.Errorf("Pick of the dice %#x and %d is %d", d.State, weights, place)
		}
	}
}

// asked is all that the calls tell of d, in a row.
func asked(d api.Dice) []uint64 {
	var out []uint64
	tell := func(then api.Dice, numbers ...int) {
		out = append(out, then.State)
		for _, n := range numbers {
			out = append(out, uint64(n))
		}
	}
	number, then := dice.Next(d)
	tell(then, int(number))
	for _, n := range []int{-1, 0, 1, 2, 10, math.MaxInt} {
		below, then := dice.Below(d, n)
		tell(then, below)
		tell(dice.Skip(d, n))
		row, then := dice.Shuffle(d, n)
		tell(then, row...)
	}
	for _, weights := range light() {
		place, then := dice.Pick(d, weights)
		tell(then, place)
	}
	return out
}

// TestEqualDiceTellTheSame: whatever other dice told meanwhile.
func TestEqualDiceTellTheSame(t *testing.T) {
	var wants [][]uint64
	for _, state := range states() {
		wants = append(wants, asked(dice.New(state)))
	}
	for i, state := range slices.Backward(states()) {
		for range 2 {
			if !slices.Equal(asked(dice.New(state)), wants[i]) {
				t.Errorf("the dice %#x tell something else, when they are asked again", state)
			}
		}
	}
}
