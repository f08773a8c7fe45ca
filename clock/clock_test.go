package clock_test

import (
	"math"
	"math/big"
	"math/rand"
	"regexp"
	"slices"
	"strconv"
	"strings"
	"testing"
	"unsafe"

	"horarium/api"
	"horarium/clock"
)

const (
	allWeeks  = math.MaxUint32
	highWeeks = allWeeks - (1<<20 - 1)
	highDay   = 1 << 7
	long      = 1 << 20
)

func grid(weeks, days, slots int) api.Grid {
	return api.Grid{Weeks: weeks, Days: days, Slots: slots}
}

func at(weeks uint32, days uint8, start, length int) api.When {
	return api.When{Weeks: weeks, Days: days, Start: start, Len: length}
}

// widest has all weeks, days and slots that there can be.
func widest() api.Grid { return grid(20, 7, 96) }

// grids are some that may be, the least and the greatest ones among them.
func grids() []api.Grid {
	return []api.Grid{grid(1, 1, 1), grid(1, 1, 2), grid(1, 2, 1), grid(2, 1, 1), grid(2, 2, 4), grid(3, 5, 10), grid(4, 6, 7), grid(20, 1, 1), grid(1, 7, 1), grid(1, 1, 96), grid(19, 6, 95), widest()}
}

// wild are numbers over the int's whole range that neither a grid nor a time may have; some look well if they are cut short.
func wild() []int {
	return []int{math.MinInt, math.MinInt + 1, math.MinInt32, -1 << 32, -1<<32 + 1, -97, -96, -2, -1, 97, 98, 256, 257, math.MaxInt32, 1 << 32, 1<<32 + 1, 1<<62 + 1, math.MaxInt - 96, math.MaxInt - 1, math.MaxInt}
}

// wrongGrids are some that may not be, by one number alone or by several.
func wrongGrids() []api.Grid {
	out := []api.Grid{{}, grid(21, 7, 96), grid(20, 8, 96), grid(20, 7, 97), grid(21, 8, 97), grid(0, 1, 1), grid(1, 0, 1), grid(1, 1, 0), grid(-1, -1, -1), grid(7, 20, 96), grid(96, 7, 20)}
	for _, n := range wild() {
		out = append(out, grid(n, 7, 96), grid(20, n, 96), grid(20, 7, n), grid(n, n, n))
	}
	return out
}

// times are all Whens that may be in g.
func times(g api.Grid) []api.When {
	out := []api.When{}
	for weeks := uint32(1); weeks < 1<<g.Weeks; weeks++ {
		for days := 1; days < 1<<g.Days; days++ {
			for start := range g.Slots {
				for length := 1; start+length <= g.Slots; length++ {
					out = append(out, at(weeks, uint8(days), start, length))
				}
			}
		}
	}
	return out
}

// someTime is one that may be in g, by chance.
func someTime(chance *rand.Rand, g api.Grid) api.When {
	length := 1 + chance.Intn(g.Slots)
	return api.When{
		Weeks: 1 + uint32(chance.Intn(1<<g.Weeks-1)),
		Days:  uint8(1 + chance.Intn(1<<g.Days-1)),
		Start: chance.Intn(g.Slots - length + 1),
		Len:   length,
	}
}

// some are times that may be in g: those at its edges, and others by chance.
func some(g api.Grid) []api.When {
	out := []api.When{
		at(1, 1, 0, 1), at(1, 1, g.Slots-1, 1), at(1, 1, 0, g.Slots),
		at(1<<(g.Weeks-1), 1<<(g.Days-1), g.Slots-1, 1), at(1<<g.Weeks-1, 1<<g.Days-1, 0, g.Slots),
	}
	chance := rand.New(rand.NewSource(1))
	for range 50 {
		out = append(out, someTime(chance, g))
	}
	return out
}

// beside are times that may not be in g, each by little alone, or by numbers that are wild.
func beside(g api.Grid) []api.When {
	out := []api.When{
		{}, at(0, 1, 0, 1), at(1, 0, 0, 1), at(1, 1, 0, 0), at(1, 1, -1, 1), at(1, 1, -1, 2), at(1, 1, 0, -1), at(1, 1, 1, -1),
		at(1<<g.Weeks, 1, 0, 1), at(1<<g.Weeks|1, 1, 0, 1), at(1<<31, 1, 0, 1), at(allWeeks, 1, 0, 1),
		at(1, 1<<g.Days, 0, 1), at(1, 1<<g.Days|1, 0, 1), at(1, highDay, 0, 1), at(1, highDay|1, 0, 1), at(1, math.MaxUint8, 0, 1),
		at(1, 1, 0, g.Slots+1), at(1, 1, 1, g.Slots), at(1, 1, g.Slots, 1), at(1, 1, g.Slots-1, 2), at(1, 1, g.Slots+1, -1),
		at(1, 1, math.MaxInt, math.MinInt), at(1, 1, math.MaxInt, math.MaxInt), at(1, 1, math.MinInt, math.MaxInt),
	}
	for _, n := range wild() {
		out = append(out, at(1, 1, n, 1), at(1, 1, 0, n), at(1, 1, n, n))
	}
	return out
}

// The chapter's words once more, by means of their own

// weeksText: of each week that begins a run its number, and of each that ends a longer one - and its number.
func weeksText(w uint32) string {
	has := func(week int) bool { return week >= 1 && week <= 20 && w&(1<<(week-1)) != 0 }
	text := []byte{}
	for week := 1; week <= 20; week++ {
		switch {
		case !has(week):
		case !has(week - 1):
			if len(text) > 0 {
				text = append(text, ',')
			}
			text = strconv.AppendInt(text, int64(week), 10)
		case !has(week + 1):
			text = append(text, '-')
			text = strconv.AppendInt(text, int64(week), 10)
		}
	}
	return string(text)
}

const aNumber = `(0|[1-9][0-9]?)`

var weeksForm = regexp.MustCompile(`^` + aNumber + `(-` + aNumber + `)?(,` + aNumber + `(-` + aNumber + `)?)*$`)

// weeksOf: the weeks whose text s is, or the error.
func weeksOf(s string) (uint32, api.Errno) {
	if !weeksForm.MatchString(s) {
		return 0, api.ErrForm
	}
	told, beyond := [100]bool{}, false
	least := 0
	for _, run := range strings.Split(s, ",") {
		ends := strings.Split(run, "-")
		first, _ := strconv.Atoi(ends[0])
		last, _ := strconv.Atoi(ends[len(ends)-1])
		if first < least || len(ends) == 2 && first >= last {
			return 0, api.ErrForm
		}
		least = last + 2
		for week := first; week <= last; week++ {
			told[week] = true
		}
	}
	weeks := uint32(0)
	for week, ok := range told {
		if ok && (week == 0 || week > 20) {
			beyond = true
		} else if ok {
			weeks += 1 << (week - 1)
		}
	}
	if beyond {
		return 0, api.ErrRange
	}
	return weeks, api.OK
}

// dayLetter are the days' letters, and their bits.
var dayLetters = []struct {
	letter string
	bit    uint8
}{{"m", 1}, {"t", 2}, {"w", 4}, {"h", 8}, {"f", 16}, {"s", 32}, {"u", 64}}

func daysText(d uint8) string {
	text := ""
	for _, day := range dayLetters {
		if d&day.bit != 0 {
			text += day.letter
		}
	}
	return text
}

// daysTexts are all texts of days, and those.
func daysTexts() map[string]uint8 {
	out := map[string]uint8{}
	for d := uint8(1); d < 128; d++ {
		out[daysText(d)] = d
	}
	return out
}

func text(w api.When) string {
	return weeksText(w.Weeks) + " " + daysText(w.Days) + " " + strconv.Itoa(w.Start) + "+" + strconv.Itoa(w.Len)
}

var slotsForm = regexp.MustCompile(`^(0|[1-9][0-9]*)\+(0|[1-9][0-9]*)$`)

// timeOf: the time of g, which may be, whose text s is, or the error.
func timeOf(g api.Grid, s string, days map[string]uint8) (api.When, api.Errno) {
	words := strings.Split(s, " ")
	if len(words) != 3 || days[words[1]] == 0 || !slotsForm.MatchString(words[2]) {
		return api.When{}, api.ErrForm
	}
	weeks, err := weeksOf(words[0])
	if err != api.OK {
		return api.When{}, err
	}
	before, after, _ := strings.Cut(words[2], "+")
	start, _ := new(big.Int).SetString(before, 10)
	length, _ := new(big.Int).SetString(after, 10)
	end := new(big.Int).Add(start, length)
	if weeks >= 1<<g.Weeks || int(days[words[1]]) >= 1<<g.Days || length.Sign() == 0 || end.Cmp(big.NewInt(int64(g.Slots))) > 0 {
		return api.When{}, api.ErrRange
	}
	return at(weeks, days[words[1]], int(start.Int64()), int(length.Int64())), api.OK
}

// near are the texts that come of s by one byte less, one more, or another one, or by two that change their places.
func near(s, others string) []string {
	var out []string
	for i := range len(s) + 1 {
		for _, c := range []byte(others) {
			out = append(out, s[:i]+string([]byte{c})+s[i:])
			if i < len(s) {
				out = append(out, s[:i]+string([]byte{c})+s[i+1:])
			}
		}
		if i < len(s) {
			out = append(out, s[:i]+s[i+1:], s[:i], s[i:])
		}
		if i+1 < len(s) {
			out = append(out, s[:i]+s[i+1:i+2]+s[i:i+1]+s[i+2:])
		}
	}
	return out
}

// short are all texts of up to so many of the letters.
func short(letters string, most int) []string {
	out := []string{""}
	for from := 0; len(out[from]) < most; from++ {
		for i := range len(letters) {
			out = append(out, out[from]+letters[i:i+1])
		}
	}
	return out
}

func wantWeeks(t *testing.T, w uint32, want string) {
	t.Helper()
	if got := clock.Weeks(w); got != want {
		t.Errorf("Weeks(%#x) = %q, want %q", w, got, want)
	}
}

func wantParseWeeks(t *testing.T, s string, want uint32, err api.Errno) {
	t.Helper()
	if got, e := clock.ParseWeeks(s); got != want || e != err {
		t.Errorf("ParseWeeks(%.60q) = %#x, %d, want %#x, %d", s, got, e, want, err)
	}
}

func wantDays(t *testing.T, d uint8, want string) {
	t.Helper()
	if got := clock.Days(d); got != want {
		t.Errorf("Days(%#x) = %q, want %q", d, got, want)
	}
}

func wantParseDays(t *testing.T, s string, want uint8, err api.Errno) {
	t.Helper()
	if got, e := clock.ParseDays(s); got != want || e != err {
		t.Errorf("ParseDays(%.60q) = %#x, %d, want %#x, %d", s, got, e, want, err)
	}
}

func wantPrint(t *testing.T, g api.Grid, w api.When, want string) {
	t.Helper()
	if got := clock.Print(g, w); got != want {
		t.Errorf("Print(%v, %v) = %q, want %q", g, w, got, want)
	}
}

func wantParse(t *testing.T, g api.Grid, s string, want api.When, err api.Errno) {
	t.Helper()
	if got, e := clock.Parse(g, s); got != want || e != err {
		t.Errorf("Parse(%v, %.60q) = %v, %d, want %v, %d", g, s, got, e, want, err)
	}
}

func wantMoment(t *testing.T, g api.Grid, m int, want string) {
	t.Helper()
	if got := clock.Moment(g, m); got != want {
		t.Errorf("Moment(%v, %d) = %q, want %q", g, m, got, want)
	}
}

// The chapter's examples

func TestExample(t *testing.T) {
	w := at(7, 5, 16, 4)
	wantPrint(t, widest(), w, "1-3 mw 16+4")
	wantParse(t, widest(), "1-3 mw 16+4", w, api.OK)
	wantParseWeeks(t, "1,2", 0, api.ErrForm)
}

// P10.1: Weeks, ParseWeeks

// runs are weeks and their texts.
func runs() map[uint32]string {
	return map[uint32]string{
		1: "1", 1 << 9: "10", 1 << 19: "20",
		1 | 2: "1-2", 1<<8 | 1<<9: "9-10", 1<<18 | 1<<19: "19-20",
		7: "1-3", 0b1111110: "2-7", 1<<20 - 1: "1-20", 1<<20 - 2: "2-20", 1<<19 - 1: "1-19",
		1 | 4: "1,3", 1 | 1<<19: "1,20", 1<<17 | 1<<19: "18,20", 0b1011: "1-2,4", 0b1101: "1,3-4", 0b11011: "1-2,4-5",
		1<<20 - 1 - 1<<9: "1-9,11-20", 1<<20 - 1 - 1<<18: "1-18,20", 1<<20 - 1 - 2: "1,3-20", 0b11001110001110011111: "1-5,8-10,14-16,19-20",
		0x55555: "1,3,5,7,9,11,13,15,17,19", 0xaaaaa: "2,4,6,8,10,12,14,16,18,20", 0xdb6db: "1-2,4-5,7-8,10-11,13-14,16-17,19-20",
	}
}

func TestRuns(t *testing.T) {
	for w, s := range runs() {
		wantWeeks(t, w, s)
		wantParseWeeks(t, s, w, api.OK)
		for i := 20; i < 32; i++ {
			wantWeeks(t, w|1<<i, s)
		}
		wantWeeks(t, w|highWeeks, s)
	}
}

func TestNoWeeks(t *testing.T) {
	wantWeeks(t, 0, "")
	for i := 20; i < 32; i++ {
		wantWeeks(t, 1<<i, "")
		wantWeeks(t, allWeeks<<i, "")
	}
}

func TestEachWeekAlone(t *testing.T) {
	for i := range 20 {
		wantWeeks(t, 1<<i, strconv.Itoa(i+1))
		wantParseWeeks(t, strconv.Itoa(i+1), 1<<i, api.OK)
	}
}

// TestEachRun: from each week to each one behind it.
func TestEachRun(t *testing.T) {
	for first := 1; first <= 20; first++ {
		for last := first + 1; last <= 20; last++ {
			s := strconv.Itoa(first) + "-" + strconv.Itoa(last)
			weeks := uint32(0)
			for week := first; week <= last; week++ {
				weeks += 1 << (week - 1)
			}
			wantWeeks(t, weeks, s)
			wantParseWeeks(t, s, weeks, api.OK)
		}
	}
}

// TestAllWeeks: all there are, with bits from 20 on and without, and back; so unlike weeks have unlike texts.
func TestAllWeeks(t *testing.T) {
	for w := uint32(1); w < 1<<20; w++ {
		s := weeksText(w)
		wantWeeks(t, w, s)
		wantWeeks(t, w|highWeeks, s)
		wantParseWeeks(t, s, w, api.OK)
		if t.Failed() {
			return
		}
	}
}

// notWeeks are texts that are of no weeks' form.
func notWeeks() []string {
	return []string{
		"", ",", ",,", "-", "--", "-,-",
		",1", "1,", "1,,3", ",1,3", "1,3,", "1-3,", ",1-3", "1-3,,5", ",1,",
		"-3", "1-", "1,-3", "1-,3", "1,3-", "1--3", "--3", "1--", "1-3-", "-1-3", "1-2-3", "1-3-5-7", "1-3,5-",
		"3-3", "1-1", "20-20", "3-2", "20-1", "10-9", "9-9", "2-1", "1,5-5", "1,5-4", "99-1", "0-0", "1-0", "99-98", "99-99",
		"1,2", "2,3", "1-2,3", "1-2,3-4", "1,2-3", "9,10", "19,20", "1,3,4", "0,1", "20,21", "0-1,2", "98,99",
		"1,1", "5,5", "1-3,3", "1-3,3-5", "1-3,2", "1-5,2-3", "1-3,1-3", "1-20,1-20", "0,0", "99,99", "21,21",
		"3,1", "5-7,1", "5-7,1-3", "20,1", "1,5,3", "10,9", "11,2", "99,1", "50,0", "1,20,10",
		"100", "101", "999", "000", "1-100", "100-200", "1,100", "100,1", "18446744073709551617", "4294967297", "1-4294967299", "99999999999999999999", "1-99999999999999999999",
		"00", "01", "001", "1-03", "01-3", "1,03", "01,3", "00-3", "0-03", "020", "1-020",
		"+1", "-1", "-0", "+0", "1-+3", "1,+3", "1,-3", "1--3", "+1-3", "−1", "1- -3",
		" ", " 1", "1 ", "1 ,3", "1, 3", "1 -3", "1- 3", "1-3 ", " 1-3", "1 3", "1\t", "\t1", "1\n", "\n", "1\r\n", "1-3\n", "1\x00", "\x00", "\x001", "1,\n3",
		"a", "m", "1a", "a1", "x-y", "1-x", "1.3", "1..3", "1;3", "1:3", "1/3", "1_3", "1–3", "1—3", "1‑3", "1，3", "１", "1-３", "٣", "1\xff", "\xff", "\xb1", "1\xac3", "0x1", "1e1", "one",
		"1-3 mw 16+4", "mw", "16+4", "1+3",
	}
}

func TestParseWeeksRefusesOtherForms(t *testing.T) {
	for _, s := range notWeeks() {
		wantParseWeeks(t, s, 0, api.ErrForm)
	}
}

// notInRange are texts of weeks' form, but of a number, at least, that is no week's.
func notInRange() []string {
	return []string{
		"0", "21", "22", "30", "90", "99", "24", "32", "33", "64", "65",
		"0-1", "0-20", "0-99", "0-21", "1-21", "20-21", "1-99", "21-22", "21-99", "98-99", "32-33", "20-40",
		"0,2", "0,20", "0-1,3", "1,21", "1-19,21", "20,22", "1,99", "18,20,22", "1,3,5,97,99", "0,99", "0,2,21", "0,21,99", "97,99", "0-5,7-99", "1-2,4-5,7-21", "19,21",
	}
}

func TestParseWeeksOutOfRange(t *testing.T) {
	for _, s := range notInRange() {
		wantParseWeeks(t, s, 0, api.ErrRange)
	}
}

// TestFormOfWeeksComesFirst: a run that is of no form is told, wherever the numbers that are out of their range stand.
func TestFormOfWeeksComesFirst(t *testing.T) {
	for _, s := range notInRange() {
		for _, other := range []string{"", "x", "00", "100", "5-5", "1-", "-1", "1-2-3", " ", "7 "} {
			wantParseWeeks(t, s+","+other, 0, api.ErrForm)
			wantParseWeeks(t, other+","+s, 0, api.ErrForm)
			wantParseWeeks(t, s+","+other+",99", 0, api.ErrForm)
		}
		for _, other := range []string{"0", "0-1"} {
			wantParseWeeks(t, s+","+other, 0, api.ErrForm)
		}
	}
	for _, s := range []string{"21-20", "99-0", "0,1", "21,22", "0-21,22", "0-21,5", "99,0", "21-21", "0-0", "0,,2", "0,", ",0", "99,", ",99", "021", "0-", "21-", "-21", "0-1-21"} {
		wantParseWeeks(t, s, 0, api.ErrForm)
	}
}

// TestEachTwoNumbers: alone, as a run, and as two runs.
func TestEachTwoNumbers(t *testing.T) {
	for a := range 130 {
		first := strconv.Itoa(a)
		weeks, err := weeksOf(first)
		wantParseWeeks(t, first, weeks, err)
		for b := range 130 {
			for _, s := range []string{first + "-" + strconv.Itoa(b), first + "," + strconv.Itoa(b)} {
				weeks, err := weeksOf(s)
				wantParseWeeks(t, s, weeks, err)
			}
		}
	}
}

// TestEachTwoRuns: where they begin and end about one another, and about both ends of what is a week.
func TestEachTwoRuns(t *testing.T) {
	for _, from := range []int{0, 6, 16} {
		list := []string{}
		for a := from; a < from+8; a++ {
			for b := a; b < from+8; b++ {
				list = append(list, strconv.Itoa(a)+"-"+strconv.Itoa(b))
			}
			list = append(list, strconv.Itoa(a))
		}
		for _, a := range list {
			for _, b := range list {
				weeks, err := weeksOf(a + "," + b)
				wantParseWeeks(t, a+","+b, weeks, err)
			}
		}
	}
}

// TestManyRuns: rows of runs by chance, most of which rise.
func TestManyRuns(t *testing.T) {
	chance := rand.New(rand.NewSource(2))
	told := map[api.Errno]int{}
	for range 30000 {
		n, row := chance.Intn(3), []string{}
		for range 1 + chance.Intn(8) {
			run := strconv.Itoa(n)
			if chance.Intn(2) == 0 {
				n += 1 + chance.Intn(3)
				run += "-" + strconv.Itoa(n)
			}
			row = append(row, run)
			n += 2 + chance.Intn(3)
			if chance.Intn(12) == 0 {
				n = max(0, n-1-chance.Intn(3))
			}
		}
		s := strings.Join(row, ",")
		weeks, err := weeksOf(s)
		told[err]++
		wantParseWeeks(t, s, weeks, err)
	}
	if told[api.OK] < 3000 || told[api.ErrForm] < 3000 || told[api.ErrRange] < 3000 {
		t.Errorf("the rows are of too few kinds: %v", told)
	}
}

// TestShortTextsOfWeeks: all of them, and those near to texts that are read.
func TestShortTextsOfWeeks(t *testing.T) {
	for _, s := range append(short("0129-,", 6), short("013,- +x", 4)...) {
		weeks, err := weeksOf(s)
		wantParseWeeks(t, s, weeks, err)
	}
	for _, text := range runs() {
		for _, s := range near(text, "0123456789,-+ .m\x00\xff") {
			weeks, err := weeksOf(s)
			wantParseWeeks(t, s, weeks, err)
		}
	}
}

// TestEachByteInWeeks: alone, behind a number, between two and ahead of one.
func TestEachByteInWeeks(t *testing.T) {
	for i := range 256 {
		b := string([]byte{byte(i)})
		for _, s := range []string{b, "1" + b, b + "1", "1" + b + "4", "1-" + b, "1," + b, "1-3" + b, "2-1" + b, "1" + b + "8"} {
			weeks, err := weeksOf(s)
			wantParseWeeks(t, s, weeks, err)
		}
	}
}

func TestVeryLongTextsOfWeeks(t *testing.T) {
	for _, s := range []string{"1", "0", ",", "-", "1,", "1-3,", "9", " ", "1-", ",3", "\xff", "é"} {
		wantParseWeeks(t, strings.Repeat(s, long), 0, api.ErrForm)
		wantParseWeeks(t, "1,"+strings.Repeat(s, long), 0, api.ErrForm)
		wantParseWeeks(t, "1-20"+strings.Repeat(s, long), 0, api.ErrForm)
	}
}

// P10.1: Days, ParseDays

func TestKnownDays(t *testing.T) {
	for d, s := range map[uint8]string{1: "m", 2: "t", 4: "w", 8: "h", 16: "f", 32: "s", 64: "u", 5: "mw", 127: "mtwhfsu", 31: "mtwhf", 96: "su", 65: "mu", 85: "mwfu", 42: "ths", 126: "twhfsu", 63: "mtwhfs"} {
		wantDays(t, d, s)
		wantDays(t, d|highDay, s)
		wantParseDays(t, s, d, api.OK)
	}
	wantDays(t, 0, "")
	wantDays(t, highDay, "")
	wantParseDays(t, "", 0, api.ErrForm)
}

// TestAllDays: all there are, with bit 7 and without, and back; so unlike days have unlike texts.
func TestAllDays(t *testing.T) {
	for d := range uint8(128) {
		wantDays(t, d, daysText(d))
		wantDays(t, d|highDay, daysText(d))
	}
	for s, d := range daysTexts() {
		wantParseDays(t, s, d, api.OK)
	}
}

// notDays are texts that are no days'.
func notDays() []string {
	return []string{
		"", "mm", "tt", "uu", "mtm", "mtt", "mtwhfsuu", "mmtwhfsu", "mtwhfsum", "msus",
		"tm", "wm", "um", "us", "sf", "mwt", "mtwhfus", "usfhwtm", "mhw", "fh",
		"M", "T", "W", "H", "F", "S", "U", "MW", "mW", "Mw", "MTWHFSU",
		"a", "x", "mx", "xm", "mtwxhfsu", "th", "mo", "mon", "0", "1", "m1", "-", "m,w", "m-w", "m+w", "*",
		" ", " m", "m ", "m w", "\t", "m\n", "\n", "\x00", "m\x00", "\x00m", "m\x00w",
		"\xff", "m\xff", "\xffm", "\xed", "\xc3", "m\xcc", "ŭ", "ｍ", "m̈", "ⓜ", "\u016dm", "\U0001d426", "\ufffd", "m\ufffd", "\u006d\u0301", "ſ", "mſu",
	}
}

func TestParseDaysRefusesOtherForms(t *testing.T) {
	right := daysTexts()
	for _, s := range notDays() {
		if right[s] == 0 {
			wantParseDays(t, s, 0, api.ErrForm)
		}
	}
	if right["th"] == 0 || right["mw"] == 0 || len(right) != 127 {
		t.Error("the texts of days are not all there")
	}
}

// TestShortTextsOfDays: all of them, and those near to texts that are read.
func TestShortTextsOfDays(t *testing.T) {
	right := daysTexts()
	want := func(s string) {
		if right[s] == 0 {
			wantParseDays(t, s, 0, api.ErrForm)
		} else {
			wantParseDays(t, s, right[s], api.OK)
		}
	}
	for _, s := range append(short("mtwhfsu", 5), short("mtuMx -0", 4)...) {
		want(s)
	}
	for text := range right {
		for _, s := range near(text, "mtwhfsuMTWHFSUaz0 ,-+\x00\x80\xff") {
			want(s)
		}
	}
}

// TestEachByteInDays: alone, ahead of a letter, behind one, and between two.
func TestEachByteInDays(t *testing.T) {
	right := daysTexts()
	for i := range 256 {
		b := string([]byte{byte(i)})
		for _, s := range []string{b, "m" + b, b + "u", "m" + b + "u", "mtwhfsu" + b, b + "mtwhfsu"} {
			if right[s] == 0 {
				wantParseDays(t, s, 0, api.ErrForm)
			} else {
				wantParseDays(t, s, right[s], api.OK)
			}
		}
	}
}

// TestEachRuneInDays: what is no letter of a day is refused, whatever it is cut short to.
func TestEachRuneInDays(t *testing.T) {
	for r := rune(128); r < 0x20000; r++ {
		wantParseDays(t, string(r), 0, api.ErrForm)
		wantParseDays(t, "m"+string(r)+"u", 0, api.ErrForm)
	}
}

func TestVeryLongTextsOfDays(t *testing.T) {
	for _, s := range []string{"m", "u", "mtwhfsu", " ", "\xff", "é", "M"} {
		wantParseDays(t, strings.Repeat(s, long), 0, api.ErrForm)
		wantParseDays(t, "mtwhfsu"+strings.Repeat(s, long), 0, api.ErrForm)
	}
}

// P10.2: Print, Parse

func TestKnownTimes(t *testing.T) {
	for s, w := range map[string]api.When{
		"1 m 0+1":              at(1, 1, 0, 1),
		"20 u 95+1":            at(1<<19, 64, 95, 1),
		"1-20 mtwhfsu 0+96":    at(1<<20-1, 127, 0, 96),
		"1-2,4,19-20 th 10+10": at(0b11000000000000001011, 10, 10, 10),
		"2,4 s 9+87":           at(10, 32, 9, 87),
		"10 f 94+2":            at(1<<9, 16, 94, 2),
	} {
		wantPrint(t, widest(), w, s)
		wantParse(t, widest(), s, w, api.OK)
	}
}

// TestTimesComeBack: all times of small grids, and many of others.
func TestTimesComeBack(t *testing.T) {
	check := func(g api.Grid, w api.When) {
		wantPrint(t, g, w, text(w))
		wantParse(t, g, text(w), w, api.OK)
	}
	for _, g := range []api.Grid{grid(1, 1, 1), grid(2, 2, 4), grid(3, 1, 12), grid(1, 3, 3), grid(5, 3, 2)} {
		for _, w := range times(g) {
			check(g, w)
		}
	}
	for _, g := range grids() {
		for _, w := range some(g) {
			check(g, w)
		}
	}
}

// TestEachSlot: all that there can be of Start and Len, in grids of each size.
func TestEachSlot(t *testing.T) {
	for slots := 1; slots <= 96; slots++ {
		g := grid(1, 1, slots)
		for _, start := range []int{0, 1, slots / 2, slots - 1, slots, slots + 1, 97, 100} {
			for length := range 99 {
				s, w := "1 m "+strconv.Itoa(start)+"+"+strconv.Itoa(length), at(1, 1, start, length)
				if length >= 1 && start+length <= slots {
					wantPrint(t, g, w, s)
					wantParse(t, g, s, w, api.OK)
				} else {
					wantPrint(t, g, w, "")
					wantParse(t, g, s, api.When{}, api.ErrRange)
				}
			}
		}
	}
}

func TestPrintOfWrongTimes(t *testing.T) {
	for _, g := range grids() {
		for _, w := range beside(g) {
			wantPrint(t, g, w, "")
		}
	}
}

func TestPrintInWrongGrids(t *testing.T) {
	for _, g := range wrongGrids() {
		for _, other := range grids() {
			for _, w := range append(some(other), beside(other)...) {
				wantPrint(t, g, w, "")
			}
		}
	}
}

// notTimes are texts that are of no time's form.
func notTimes() []string {
	out := []string{
		"", " ", "  ", "   ", "1", "1 m", "m 0+1", "1 0+1", "0+1", "1 m ", " m 0+1", "1  0+1", "1 m 0", "1m0+1", "1m 0+1", "1 m0+1",
		"1 m 0+1 ", " 1 m 0+1", "1  m 0+1", "1 m  0+1", "1 m 0+1  ", "1 m 0 +1", "1 m 0+ 1", "1 m 0 + 1", "1 m 0+1 x", "1 m 0+1 1", "1 m 0+1 m 0+1", "1 m t 0+1", "1 2 m 0+1", "1,3 m 0+1 ",
		"1\tm\t0+1", "1\tm 0+1", "1 m\t0+1", "1 m 0+1\n", "\n1 m 0+1", "1\nm\n0+1", "1 m 0+1\x00", "1 m 0+1\r\n", "1\u00a0m 0+1", "1 m\u20030+1", "1 % 0+1", "% m 0+1", "1 m %",
		"1 m +", "1 m 0+", "1 m +1", "1 m 01", "1 m 0++1", "1 m 0+1+", "1 m +0+1", "1 m 0+1+1", "1 m ++", "1 m 0+1+2+3", "1 m 0%2b1",
		"1 m -1+1", "1 m 0+-1", "1 m -0+1", "1 m 0+-0", "1 m -1+-1", "1 m 0-1", "1 m 0-+1", "1 m 0+1-", "1 m -+-", "1 m -9223372036854775808+1", "1 m 0+-9223372036854775809", "1 m -18446744073709551616+1",
		"1 m 00+1", "1 m 0+01", "1 m 01+1", "1 m 0+00", "1 m 007+1", "1 m 0+099999999999999999999", "1 m 00000000000000000000000+1", "1 m 018446744073709551616+1",
		"1 m x+1", "1 m 0+x", "1 m 0x0+1", "1 m 1e1+1", "1 m 1.0+1", "1 m 1,0+1", "1 m 1_0+1", "1 m ０+1", "1 m 0＋1", "1 m 0:1", "1 m a", "1 m 99999999999999999999x+1", "1 m 0+99999999999999999999x", "1 m \xff+1", "1 m 0+1\xff",
		"m 1 0+1", "0+1 m 1", "1 0+1 m",
	}
	for _, s := range notWeeks() {
		out = append(out, s+" m 0+1")
	}
	right := daysTexts()
	for _, s := range notDays() {
		if right[s] == 0 {
			out = append(out, "1 "+s+" 0+1")
		}
	}
	return out
}

func TestParseRefusesOtherForms(t *testing.T) {
	for _, g := range grids() {
		for _, s := range notTimes() {
			wantParse(t, g, s, api.When{}, api.ErrForm)
		}
	}
}

// TestParseOutOfRange: by little, by numbers beyond the int, and by those that look well if they wrap round or are cut short.
func TestParseOutOfRange(t *testing.T) {
	for _, s := range []string{
		"0 m 0+1", "21 m 0+1", "99 m 0+1", "0-3 m 0+1", "1-21 m 0+1", "1,3,99 m 0+1",
		"1 m 0+0", "1 m 96+1", "1 m 95+2", "1 m 96+0", "1 m 0+97", "1 m 1+96", "1 m 97+0", "1 m 100+1", "1 m 50+47", "1 m 96+96",
		"1 m 9223372036854775807+1", "1 m 0+9223372036854775807", "1 m 1+9223372036854775807", "1 m 9223372036854775807+9223372036854775807",
		"1 m 9223372036854775808+1", "1 m 0+9223372036854775808", "1 m 18446744073709551615+1", "1 m 18446744073709551615+2", "1 m 5+18446744073709551615", "1 m 18446744073709551611+10",
		"1 m 18446744073709551616+1", "1 m 0+18446744073709551617", "1 m 4294967296+1", "1 m 0+4294967297", "1 m 256+1", "1 m 0+257", "1 m 99999999999999999999999+1", "1 m 0+99999999999999999999999",
		"0 m 99999999999999999999+1", "99 u 0+0", "1 m " + strings.Repeat("9", 1000) + "+" + strings.Repeat("9", 1000),
	} {
		for _, g := range grids() {
			wantParse(t, g, s, api.When{}, api.ErrRange)
		}
	}
}

// TestTimesThatTheGridHasNot: a week, a day or a slot more than there is.
func TestTimesThatTheGridHasNot(t *testing.T) {
	for _, g := range grids() {
		for _, w := range beside(g) {
			if weeksText(w.Weeks) == "" || w.Weeks >= 1<<20 || daysText(w.Days) == "" || w.Days >= 1<<7 || w.Start < 0 || w.Len < 0 {
				continue
			}
			wantParse(t, g, text(w), api.When{}, api.ErrRange)
		}
		for _, w := range some(widest()) {
			if w.Weeks < 1<<g.Weeks && w.Days < 1<<g.Days && w.Start+w.Len <= g.Slots {
				wantParse(t, g, text(w), w, api.OK)
			} else {
				wantParse(t, g, text(w), api.When{}, api.ErrRange)
				wantPrint(t, g, w, "")
			}
		}
	}
}

// TestEachWeekAndDayOfAGrid: the last ones that it has, and the first ones that it has not.
func TestEachWeekAndDayOfAGrid(t *testing.T) {
	for weeks := 1; weeks <= 20; weeks++ {
		for days := 1; days <= 7; days++ {
			g := grid(weeks, days, 1)
			for week := range 20 {
				for day := range 7 {
					w := at(1<<week, 1<<day, 0, 1)
					if week < weeks && day < days {
						wantPrint(t, g, w, text(w))
						wantParse(t, g, text(w), w, api.OK)
					} else {
						wantPrint(t, g, w, "")
						wantParse(t, g, text(w), api.When{}, api.ErrRange)
					}
				}
			}
		}
	}
}

func TestParseInWrongGrids(t *testing.T) {
	texts := slices.Concat(notTimes(), []string{"1 m 0+1", "1-3 mw 16+4", "1-20 mtwhfsu 0+96", "0 m 0+1", "21 m 0+1", "1 m 0+0", "1 m 96+1", "1 m 99999999999999999999+1"})
	for _, g := range wrongGrids() {
		for _, s := range texts {
			wantParse(t, g, s, api.When{}, api.ErrGrid)
		}
	}
}

// TestWhichErrorComesFirst: each of the four parts well, out of its range, or of no form.
func TestWhichErrorComesFirst(t *testing.T) {
	weeks := map[string]api.Errno{"1": api.OK, "1-3": api.OK, "0": api.ErrRange, "1,99": api.ErrRange, "1,2": api.ErrForm, "": api.ErrForm, "21,x": api.ErrForm}
	days := map[string]api.Errno{"m": api.OK, "mu": api.OK, "um": api.ErrForm, "": api.ErrForm, "M": api.ErrForm}
	slots := map[string]api.Errno{"1": api.OK, "48": api.OK, "97": api.ErrRange, "99999999999999999999": api.ErrRange, "-1": api.ErrForm, "": api.ErrForm, "01": api.ErrForm, "x": api.ErrForm}
	for a, first := range weeks {
		for b, second := range days {
			for c, third := range slots {
				for d, fourth := range slots {
					want := api.OK
					for _, err := range []api.Errno{api.ErrRange, api.ErrForm} {
						if first == err || second == err || third == err || fourth == err {
							want = err
						}
					}
					s := a + " " + b + " " + c + "+" + d
					if _, err := clock.Parse(widest(), s); err != want {
						t.Errorf("Parse of %q is %d, want %d", s, err, want)
					}
				}
			}
		}
	}
}

// TestTextsNearToTimes: against the chapter's words, read once more.
func TestTextsNearToTimes(t *testing.T) {
	days := daysTexts()
	for _, g := range []api.Grid{grid(1, 1, 1), grid(3, 5, 10), widest()} {
		for _, w := range some(g)[:20] {
			for _, s := range near(text(w), "0129-,+ mtuMx\x00\xff") {
				want, err := timeOf(g, s, days)
				wantParse(t, g, s, want, err)
			}
		}
	}
}

// TestShortTextsOfTimes: all of a few letters; what is read is what is written.
func TestShortTextsOfTimes(t *testing.T) {
	days, g := daysTexts(), grid(1, 2, 2)
	read := 0
	for _, s := range short("01mt+ ", 7) {
		want, err := timeOf(g, s, days)
		wantParse(t, g, s, want, err)
		if err == api.OK {
			read++
			wantPrint(t, g, want, s)
		}
	}
	// One week, two days alone, and of the two slots each alone, but the length of 2 is not written.
	if read != 4 {
		t.Errorf("%d texts were read, want 4", read)
	}
}

func TestEachByteInTimes(t *testing.T) {
	days := daysTexts()
	for i := range 256 {
		b := string([]byte{byte(i)})
		for _, s := range []string{b, b + " m 0+1", "1 " + b + " 0+1", "1 m " + b, "1 m " + b + "+1", "1 m 0+" + b, "1" + b + "m 0+1", "1 m" + b + "0+1", "1 m 0" + b + "1", "1 m 0+1" + b, b + "1 m 0+1"} {
			want, err := timeOf(widest(), s, days)
			wantParse(t, widest(), s, want, err)
		}
	}
}

func TestVeryLongTextsOfTimes(t *testing.T) {
	nines, noughts := strings.Repeat("9", long), strings.Repeat("0", long)
	for s, err := range map[string]api.Errno{
		strings.Repeat(" ", long):                 api.ErrForm,
		strings.Repeat("1 m 0+1", long/8):         api.ErrForm,
		strings.Repeat("+", long):                 api.ErrForm,
		"1 m 0" + strings.Repeat("+1", long):      api.ErrForm,
		"1 m 0+1" + strings.Repeat(" ", long):     api.ErrForm,
		strings.Repeat(" ", long) + "1 m 0+1":     api.ErrForm,
		"1 " + strings.Repeat("m", long) + " 0+1": api.ErrForm,
		strings.Repeat("1,", long) + " m 0+1":     api.ErrForm,
		"1 m " + noughts + "+1":                   api.ErrForm,
		"1 m 0+" + noughts:                        api.ErrForm,
		"1 m " + nines + "+" + nines:              api.ErrRange,
		"1 m " + nines + "+" + nines + " ":        api.ErrForm,
		"1 m 1" + noughts + "+1":                  api.ErrRange,
		"0 m 0+" + nines:                          api.ErrRange,
		"0 m 0+" + nines + "x":                    api.ErrForm,
	} {
		wantParse(t, widest(), s, api.When{}, err)
	}
}

// P10.3: Moment

// TestMoment: each moment of each of the grids, and numbers that are none's.
func TestMoment(t *testing.T) {
	for _, g := range grids() {
		m := 0
		for week := range g.Weeks {
			for day := range g.Days {
				for slot := range g.Slots {
					wantMoment(t, g, m, strconv.Itoa(week+1)+" "+dayLetters[day].letter+" "+strconv.Itoa(slot))
					m++
				}
			}
		}
		for _, n := range append(wild(), m, m+1, 2*m, 20*7*96, -m, math.MaxInt/2) {
			if n < 0 || n >= m {
				wantMoment(t, g, n, "")
			}
		}
	}
}

func TestKnownMoments(t *testing.T) {
	for m, s := range map[int]string{0: "1 m 0", 1: "1 m 1", 95: "1 m 95", 96: "1 t 0", 671: "1 u 95", 672: "2 m 0", 7000: "11 w 88", 13439: "20 u 95", 13440: "", -1: "", math.MaxInt: "", math.MinInt: ""} {
		wantMoment(t, widest(), m, s)
	}
	for m, s := range map[int]string{0: "1 m 0", 9: "1 m 9", 10: "1 t 0", 49: "1 f 9", 50: "2 m 0", 149: "3 f 9", 150: ""} {
		wantMoment(t, grid(3, 5, 10), m, s)
	}
	wantMoment(t, grid(1, 1, 1), 0, "1 m 0")
	wantMoment(t, grid(1, 1, 1), 1, "")
}

func TestMomentInWrongGrids(t *testing.T) {
	for _, g := range wrongGrids() {
		for _, m := range append(wild(), 0, 1, 6, 95, 96, 671, 672, 13439) {
			wantMoment(t, g, m, "")
		}
	}
}

// TestUnlikeMomentsHaveUnlikeTexts: no two of the widest grid have one text.
func TestUnlikeMomentsHaveUnlikeTexts(t *testing.T) {
	seen := map[string]int{}
	for m := range 20 * 7 * 96 {
		s := clock.Moment(widest(), m)
		if other, ok := seen[s]; ok {
			t.Fatalf("Moment of %d and of %d are both %q", other, m, s)
		}
		seen[s] = m
	}
}

// P10.4: what follows

// TestTextsThatAreReadAreWritten: of all that is told or refused ahead, what is read is written so.
func TestTextsThatAreReadAreWritten(t *testing.T) {
	texts := slices.Concat(notWeeks(), notInRange(), notDays(), notTimes(), short("0129-,", 5), short("mtwsu", 5))
	for _, s := range runs() {
		texts = append(texts, s)
	}
	for _, w := range some(widest()) {
		texts = append(texts, text(w))
	}
	read := 0
	for _, s := range texts {
		if w, err := clock.ParseWeeks(s); err == api.OK {
			read++
			wantWeeks(t, w, s)
		}
		if d, err := clock.ParseDays(s); err == api.OK {
			read++
			wantDays(t, d, s)
		}
		if w, err := clock.Parse(widest(), s); err == api.OK {
			read++
			wantPrint(t, widest(), w, s)
		}
	}
	if read < 150 {
		t.Errorf("no more than %d texts were read", read)
	}
}

// TestUnlikeTimesHaveUnlikeTexts: no two times of a grid have one text, nor is one empty.
func TestUnlikeTimesHaveUnlikeTexts(t *testing.T) {
	for _, g := range []api.Grid{grid(3, 3, 5), grid(12, 1, 1), grid(1, 7, 3), grid(1, 1, 96), grid(4, 2, 12)} {
		seen := map[string]api.When{"": {}}
		for _, w := range times(g) {
			s := clock.Print(g, w)
			if other, ok := seen[s]; ok {
				t.Fatalf("%v and %v have both the text %q in %v", other, w, s, g)
			}
			seen[s] = w
		}
	}
}

// TestTextsAreTheSameInEachGrid: a time has one text, in whichever grid it may be.
func TestTextsAreTheSameInEachGrid(t *testing.T) {
	for _, g := range grids() {
		for _, w := range some(g) {
			wantPrint(t, widest(), w, clock.Print(g, w))
			wantPrint(t, grid(20, 7, g.Slots), w, clock.Print(g, w))
		}
	}
}

// asked is all that the calls tell of a time and of a text, in a row.
func asked(g api.Grid, w api.When, s string) []any {
	weeks, weeksErr := clock.ParseWeeks(s)
	days, daysErr := clock.ParseDays(s)
	back, backErr := clock.Parse(g, s)
	return []any{clock.Weeks(w.Weeks), clock.Days(w.Days), clock.Print(g, w), clock.Moment(g, w.Start), weeks, weeksErr, days, daysErr, back, backErr}
}

// TestAgain: whatever else was asked meanwhile, the answers are the same.
func TestAgain(t *testing.T) {
	g := grid(3, 5, 10)
	list := append(some(g), beside(g)...)
	texts := slices.Concat(notWeeks(), notDays(), notTimes(), notInRange(), []string{"1-3", "mw", "1-3 mw 1+4"})
	var wants [][]any
	for i, s := range texts {
		wants = append(wants, asked(g, list[i%len(list)], s))
	}
	for i, s := range slices.Backward(texts) {
		if !slices.Equal(asked(g, list[i%len(list)], s), wants[i]) {
			t.Errorf("of %q something else is told, when it is asked again", s)
		}
	}
}

// TestTextsAreNotKept: all texts are laid into the same bytes, one behind the other; none of them is changed, and none is taken for the one ahead.
func TestTextsAreNotKept(t *testing.T) {
	days := daysTexts()
	var texts []string
	for _, w := range some(widest()) {
		s := text(w)
		texts = append(texts, s, s[:len(s)-1]+"x", strings.Replace(s, "+", "-", 1))
	}
	bytes := make([]byte, 200)
	for _, s := range texts {
		lent := bytes[:copy(bytes, s)]
		handedIn := unsafe.String(&lent[0], len(lent))
		want, err := timeOf(widest(), s, days)
		wantParse(t, widest(), handedIn, want, err)
		weeks, err := weeksOf(s)
		wantParseWeeks(t, handedIn, weeks, err)
		words := strings.Split(s, " ")
		wantParseWeeks(t, handedIn[:len(words[0])], mustWeeks(t, words[0]), api.OK)
		wantParseDays(t, handedIn[len(words[0])+1:][:len(words[1])], days[words[1]], api.OK)
		if string(lent) != s {
			t.Errorf("%q was changed to %q", s, lent)
		}
	}
}

func mustWeeks(t *testing.T, s string) uint32 {
	t.Helper()
	weeks, err := weeksOf(s)
	if err != api.OK {
		t.Fatalf("%q is no text of weeks", s)
	}
	return weeks
}
