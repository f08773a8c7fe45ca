package digits_test

import (
	"math"
	"math/big"
	"math/rand"
	"strings"
	"testing"

	"horarium/api"
	"horarium/digits"
)

const long = 1 << 20

// notForms are texts that are of no number's form, with a - or without.
var notForms = []string{
	"", "-", "--1", "--", "1-", "-1-", "1-1", "- 1", "-0", "-00", "-01", "-007",
	"00", "01", "007", "+1", "+0", "+", "-+1", "+-1",
	" 1", "1 ", "1 2", "\t1", "1\n", "\n", " ", "1\r", "\x001", "1\x00",
	"1.0", "1.", ".1", "1,000", "1_000", "0x10", "0b1", "0o7", "1e3", "1E3",
	"a", "1a", "a1", "12a4", "NaN", "Inf", "-inf",
	"/", ":", "1/", "1:", "/1", ":1",
	"\u0661", "\uff11", "1\u0661", "\u22121", "\xb1", "1\xff", "\xff", "1\xb0",
	"0-", "0 ", "00000000000000000000000", "-00000000000000000000000",
	"99999999999999999999x", "-99999999999999999999x", "x99999999999999999999",
	"018446744073709551616", "-09223372036854775809", "--9223372036854775809",
	"18446744073709551616 ", "-9223372036854775809-",
}

// edges are ints at which sums, products and texts may go wrong.
func edges() []int {
	out := []int{0, 1, 2, 3, 5, 7, 9, 10, 11, 99, 100, 101, 999999999, 1000000000}
	for i := range 63 {
		out = append(out, 1<<i, 1<<i-1, 1<<i+1)
	}
	ten := 1
	for range 18 {
		ten *= 10
		out = append(out, ten, ten-1, ten+1)
	}
	out = append(out, math.MaxInt64, math.MaxInt64-1, math.MaxInt64/2, math.MaxInt64/3, math.MaxInt64/10, 3037000499, 3037000500)
	for _, n := range out[1:] {
		out = append(out, -n)
	}
	return append(out, math.MinInt64, math.MinInt64+1, math.MinInt64/2)
}

// anyInts are ints of all lengths, the same in each run.
func anyInts(count int) []int {
	chance := rand.New(rand.NewSource(1))
	var out []int
	for range count {
		out = append(out, int(chance.Uint64())>>chance.Intn(64))
	}
	return out
}

// P1.1: Print

func TestPrintTellsDigits(t *testing.T) {
	for _, c := range []struct {
		n    int
		text string
	}{
		{0, "0"}, {1, "1"}, {9, "9"}, {10, "10"}, {11, "11"}, {99, "99"}, {100, "100"}, {1000, "1000"},
		{-1, "-1"}, {-9, "-9"}, {-10, "-10"}, {-120, "-120"}, {1234567890, "1234567890"},
		{1000000000000000000, "1000000000000000000"}, {999999999999999999, "999999999999999999"},
		{math.MaxInt64, "9223372036854775807"}, {math.MaxInt64 - 1, "9223372036854775806"},
		{math.MinInt64, "-9223372036854775808"}, {math.MinInt64 + 1, "-9223372036854775807"},
	} {
		if got := digits.Print(c.n); got != c.text {
			t.Errorf("Print(%d) = %q, want %q", c.n, got, c.text)
		}
	}
}

func TestPrintAgainstBig(t *testing.T) {
	for _, n := range append(edges(), anyInts(2000)...) {
		if got, want := digits.Print(n), big.NewInt(int64(n)).String(); got != want {
			t.Errorf("Print(%d) = %q, want %q", n, got, want)
		}
	}
}

func TestWordTellsDigits(t *testing.T) {
	for _, c := range []struct {
		n    uint64
		text string
	}{
		{0, "0"}, {1, "1"}, {9, "9"}, {10, "10"}, {99, "99"}, {100, "100"}, {1000000, "1000000"},
		{1<<63 - 1, "9223372036854775807"}, {1 << 63, "9223372036854775808"}, {1<<63 + 1, "9223372036854775809"},
		{9999999999999999999, "9999999999999999999"}, {10000000000000000000, "10000000000000000000"},
		{math.MaxUint64 - 1, "18446744073709551614"}, {math.MaxUint64, "18446744073709551615"},
	} {
		if got := digits.Word(c.n); got != c.text {
			t.Errorf("Word(%d) = %q, want %q", c.n, got, c.text)
		}
	}
}

func TestWordAgainstBig(t *testing.T) {
	for _, n := range append(edges(), anyInts(2000)...) {
		word := uint64(n)
		if got, want := digits.Word(word), new(big.Int).SetUint64(word).String(); got != want {
			t.Errorf("Word(%d) = %q, want %q", word, got, want)
		}
	}
}

// P1.2: Parse, ParseWord, Within

func wantParse(t *testing.T, s string, n int, err api.Errno) {
	t.Helper()
	if got, e := digits.Parse(s); got != n || e != err {
		t.Errorf("Parse(%.40q) = %d, %d, want %d, %d", s, got, e, n, err)
	}
}

func wantParseWord(t *testing.T, s string, n uint64, err api.Errno) {
	t.Helper()
	if got, e := digits.ParseWord(s); got != n || e != err {
		t.Errorf("ParseWord(%.40q) = %d, %d, want %d, %d", s, got, e, n, err)
	}
}

func wantWithin(t *testing.T, s string, low, high, n int, err api.Errno) {
	t.Helper()
	if got, e := digits.Within(s, low, high); got != n || e != err {
		t.Errorf("Within(%.40q, %d, %d) = %d, %d, want %d, %d", s, low, high, got, e, n, err)
	}
}

func TestParseReadsNumbers(t *testing.T) {
	wantParse(t, "0", 0, api.OK)
	wantParse(t, "7", 7, api.OK)
	wantParse(t, "-7", -7, api.OK)
	wantParse(t, "10", 10, api.OK)
	wantParse(t, "-120", -120, api.OK)
	wantParse(t, "1234567890", 1234567890, api.OK)
	wantParse(t, "-9876543210", -9876543210, api.OK)
}

func TestParseAtTheEnds(t *testing.T) {
	wantParse(t, "9223372036854775806", math.MaxInt64-1, api.OK)
	wantParse(t, "9223372036854775807", math.MaxInt64, api.OK)
	wantParse(t, "9223372036854775808", 0, api.ErrRange)
	wantParse(t, "9223372036854775809", 0, api.ErrRange)
	wantParse(t, "-9223372036854775807", math.MinInt64+1, api.OK)
	wantParse(t, "-9223372036854775808", math.MinInt64, api.OK)
	wantParse(t, "-9223372036854775809", 0, api.ErrRange)
	wantParse(t, "-9223372036854775810", 0, api.ErrRange)
	// What wraps round to a small number is out of range, too.
	for _, s := range []string{"18446744073709551615", "18446744073709551616", "18446744073709551617", "18446744073709551626", "36893488147419103232", "99999999999999999999", "100000000000000000000", "184467440737095516160"} {
		wantParse(t, s, 0, api.ErrRange)
		wantParse(t, "-"+s, 0, api.ErrRange)
	}
}

func TestParseRefusesOtherForms(t *testing.T) {
	for _, s := range notForms {
		wantParse(t, s, 0, api.ErrForm)
		wantWithin(t, s, math.MinInt64, math.MaxInt64, 0, api.ErrForm)
	}
}

func TestParseWordReadsNumbers(t *testing.T) {
	wantParseWord(t, "0", 0, api.OK)
	wantParseWord(t, "9", 9, api.OK)
	wantParseWord(t, "10", 10, api.OK)
	wantParseWord(t, "1234567890", 1234567890, api.OK)
}

func TestParseWordAtTheEnds(t *testing.T) {
	wantParseWord(t, "9223372036854775808", 1<<63, api.OK)
	wantParseWord(t, "10000000000000000000", 10000000000000000000, api.OK)
	wantParseWord(t, "18446744073709551609", math.MaxUint64-6, api.OK)
	wantParseWord(t, "18446744073709551614", math.MaxUint64-1, api.OK)
	wantParseWord(t, "18446744073709551615", math.MaxUint64, api.OK)
	for _, s := range []string{"18446744073709551616", "18446744073709551617", "18446744073709551619", "18446744073709551620", "18446744073709551700", "18446744073709551625", "28446744073709551615", "36893488147419103232", "99999999999999999999", "100000000000000000000", "184467440737095516150", "184467440737095516160", "340282366920938463463374607431768211456"} {
		wantParseWord(t, s, 0, api.ErrRange)
	}
}

func TestParseWordRefusesOtherForms(t *testing.T) {
	for _, s := range append([]string{"-1", "-7", "-9223372036854775808", "-18446744073709551616", "-100000000000000000000"}, notForms...) {
		wantParseWord(t, s, 0, api.ErrForm)
	}
}

func TestVeryManyDigits(t *testing.T) {
	nines, noughts := strings.Repeat("9", long), strings.Repeat("0", long)
	for _, s := range []string{nines, "1" + noughts} {
		wantParse(t, s, 0, api.ErrRange)
		wantParse(t, "-"+s, 0, api.ErrRange)
		wantParseWord(t, s, 0, api.ErrRange)
		wantParseWord(t, "-"+s, 0, api.ErrForm)
		wantWithin(t, s, math.MinInt64, math.MaxInt64, 0, api.ErrRange)
	}
	// The form is looked at ahead of the range, to the last letter.
	for _, s := range []string{noughts, noughts + "1", "0" + nines, nines + "x", nines + "-", nines + " ", nines + ":", "-" + noughts, "-0" + nines, "--" + nines, strings.Repeat("-", long)} {
		wantParse(t, s, 0, api.ErrForm)
		wantParseWord(t, s, 0, api.ErrForm)
		wantWithin(t, s, math.MinInt64, math.MaxInt64, 0, api.ErrForm)
	}
}

// TestEachByte: of texts of one byte, and of a digit and one, just digits are read.
func TestEachByte(t *testing.T) {
	for i := range 256 {
		one := string([]byte{byte(i)})
		n, tail, e := 0, 0, api.ErrForm
		if i >= '0' && i <= '9' {
			n, tail, e = i-'0', 40+i-'0', api.OK
		}
		wantParse(t, one, n, e)
		wantParseWord(t, one, uint64(n), e)
		wantParse(t, "4"+one, tail, e)
		wantParseWord(t, "4"+one, uint64(tail), e)
	}
}

// TestParseAgainstBig: around both ends of both types, and at numbers of up to 30 digits.
func TestParseAgainstBig(t *testing.T) {
	var numbers []*big.Int
	for _, text := range []string{"0", "9223372036854775807", "-9223372036854775808", "18446744073709551615", "-18446744073709551615"} {
		end, _ := new(big.Int).SetString(text, 10)
		for d := range 41 {
			numbers = append(numbers, new(big.Int).Add(end, big.NewInt(int64(d-20))))
		}
	}
	chance := rand.New(rand.NewSource(2))
	for range 3000 {
		n := new(big.Int).Rand(chance, new(big.Int).Exp(big.NewInt(10), big.NewInt(int64(1+chance.Intn(30))), nil))
		numbers = append(numbers, n, new(big.Int).Neg(n))
	}
	for _, n := range numbers {
		if n.IsInt64() {
			wantParse(t, n.String(), int(n.Int64()), api.OK)
		} else {
			wantParse(t, n.String(), 0, api.ErrRange)
		}
		switch {
		case n.Sign() < 0:
			wantParseWord(t, n.String(), 0, api.ErrForm)
		case n.IsUint64():
			wantParseWord(t, n.String(), n.Uint64(), api.OK)
		default:
			wantParseWord(t, n.String(), 0, api.ErrRange)
		}
	}
}

func TestWithin(t *testing.T) {
	wantWithin(t, "5", 1, 9, 5, api.OK)
	wantWithin(t, "1", 1, 9, 1, api.OK)
	wantWithin(t, "9", 1, 9, 9, api.OK)
	wantWithin(t, "0", 1, 9, 0, api.ErrRange)
	wantWithin(t, "10", 1, 9, 0, api.ErrRange)
	wantWithin(t, "-1", 1, 9, 0, api.ErrRange)
	wantWithin(t, "-5", -9, -1, -5, api.OK)
	wantWithin(t, "-9", -9, -1, -9, api.OK)
	wantWithin(t, "-10", -9, -1, 0, api.ErrRange)
	wantWithin(t, "0", -9, -1, 0, api.ErrRange)
	wantWithin(t, "7", 7, 7, 7, api.OK)
	wantWithin(t, "8", 7, 7, 0, api.ErrRange)
	wantWithin(t, "6", 7, 7, 0, api.ErrRange)
}

func TestWithinOfNoRange(t *testing.T) {
	for _, s := range []string{"0", "1", "5", "9", "10", "-5"} {
		wantWithin(t, s, 9, 1, 0, api.ErrRange)
		wantWithin(t, s, math.MaxInt64, math.MinInt64, 0, api.ErrRange)
	}
}

func TestWithinAtTheEnds(t *testing.T) {
	wantWithin(t, "9223372036854775807", math.MinInt64, math.MaxInt64, math.MaxInt64, api.OK)
	wantWithin(t, "-9223372036854775808", math.MinInt64, math.MaxInt64, math.MinInt64, api.OK)
	wantWithin(t, "9223372036854775807", math.MinInt64, math.MaxInt64-1, 0, api.ErrRange)
	wantWithin(t, "-9223372036854775808", math.MinInt64+1, math.MaxInt64, 0, api.ErrRange)
	wantWithin(t, "9223372036854775808", math.MinInt64, math.MaxInt64, 0, api.ErrRange)
	wantWithin(t, "-9223372036854775809", math.MinInt64, math.MaxInt64, 0, api.ErrRange)
	// Parse's error is told, though the number would be out of range as well.
	wantWithin(t, "007", 8, 9, 0, api.ErrForm)
	wantWithin(t, "-0", 1, 2, 0, api.ErrForm)
	wantWithin(t, "", 9, 1, 0, api.ErrForm)
}

// P1.3: Add, Mul

// wantInt holds what a call answered against the true number.
func wantInt(t *testing.T, name string, a, b, got int, ok bool, truth *big.Int) {
	t.Helper()
	want := 0
	if truth.IsInt64() {
		want = int(truth.Int64())
	}
	if got != want || ok != truth.IsInt64() {
		t.Errorf("%s(%d, %d) = %d, %t, want %d, %t", name, a, b, got, ok, want, truth.IsInt64())
	}
}

func checkSums(t *testing.T, a, b int) {
	t.Helper()
	x, y := big.NewInt(int64(a)), big.NewInt(int64(b))
	sum, ok := digits.Add(a, b)
	wantInt(t, "Add", a, b, sum, ok, new(big.Int).Add(x, y))
	product, ok := digits.Mul(a, b)
	wantInt(t, "Mul", a, b, product, ok, new(big.Int).Mul(x, y))
}

func TestAdd(t *testing.T) {
	for _, c := range []struct {
		a, b, sum int
		ok        bool
	}{
		{2, 3, 5, true}, {2, -3, -1, true}, {-2, -3, -5, true}, {0, 0, 0, true},
		{math.MaxInt64, 0, math.MaxInt64, true}, {math.MaxInt64 - 1, 1, math.MaxInt64, true},
		{math.MaxInt64, 1, 0, false}, {1, math.MaxInt64, 0, false}, {math.MaxInt64, math.MaxInt64, 0, false},
		{math.MinInt64, 0, math.MinInt64, true}, {math.MinInt64 + 1, -1, math.MinInt64, true},
		{math.MinInt64, -1, 0, false}, {-1, math.MinInt64, 0, false}, {math.MinInt64, math.MinInt64, 0, false},
		{math.MinInt64, math.MaxInt64, -1, true}, {math.MaxInt64, math.MinInt64, -1, true},
		{1 << 62, 1 << 62, 0, false}, {-1 << 62, -1 << 62, math.MinInt64, true},
	} {
		if sum, ok := digits.Add(c.a, c.b); sum != c.sum || ok != c.ok {
			t.Errorf("Add(%d, %d) = %d, %t, want %d, %t", c.a, c.b, sum, ok, c.sum, c.ok)
		}
	}
}

func TestMul(t *testing.T) {
	for _, c := range []struct {
		a, b, product int
		ok            bool
	}{
		{2, 3, 6, true}, {2, -3, -6, true}, {-2, -3, 6, true}, {0, 0, 0, true}, {0, -7, 0, true},
		{0, math.MinInt64, 0, true}, {math.MinInt64, 0, 0, true}, {math.MaxInt64, 0, 0, true},
		{math.MaxInt64, 1, math.MaxInt64, true}, {math.MaxInt64, -1, math.MinInt64 + 1, true},
		{math.MinInt64, 1, math.MinInt64, true}, {1, math.MinInt64, math.MinInt64, true},
		{math.MinInt64, -1, 0, false}, {-1, math.MinInt64, 0, false},
		{math.MinInt64, 2, 0, false}, {math.MinInt64, math.MinInt64, 0, false}, {math.MaxInt64, math.MaxInt64, 0, false},
		{1 << 62, 2, 0, false}, {1 << 62, -2, math.MinInt64, true}, {-1 << 62, 2, math.MinInt64, true}, {-1 << 62, -2, 0, false},
		{1 << 32, 1 << 31, 0, false}, {1 << 32, 1 << 32, 0, false}, {-1 << 32, 1 << 31, math.MinInt64, true},
		{3037000499, 3037000499, 9223372030926249001, true}, {3037000500, 3037000500, 0, false},
	} {
		if product, ok := digits.Mul(c.a, c.b); product != c.product || ok != c.ok {
			t.Errorf("Mul(%d, %d) = %d, %t, want %d, %t", c.a, c.b, product, ok, c.product, c.ok)
		}
	}
}

func TestSumsOfEdgesAgainstBig(t *testing.T) {
	all := edges()
	for _, a := range all {
		for _, b := range all {
			checkSums(t, a, b)
		}
	}
}

func TestSumsOfAnyAgainstBig(t *testing.T) {
	all := anyInts(4000)
	for i := range len(all) / 2 {
		checkSums(t, all[2*i], all[2*i+1])
	}
}

// P1.4: what follows

func TestNumbersComeBack(t *testing.T) {
	for _, n := range append(edges(), anyInts(2000)...) {
		wantParse(t, digits.Print(n), n, api.OK)
		wantParseWord(t, digits.Word(uint64(n)), uint64(n), api.OK)
	}
}

// TestTextsThatAreReadAreWritten goes through all short texts of a few letters: what is read is what is written, and what is not written is refused.
func TestTextsThatAreReadAreWritten(t *testing.T) {
	texts := []string{""}
	for from := 0; len(texts[from]) < 4; from++ {
		for _, letter := range "-+0129 x" {
			texts = append(texts, texts[from]+string(letter))
		}
	}
	read := 0
	for _, s := range texts {
		if n, e := digits.Parse(s); e == api.OK {
			read++
			if digits.Print(n) != s {
				t.Errorf("Parse(%q) = %d, which is written %q", s, n, digits.Print(n))
			}
		}
		if n, e := digits.ParseWord(s); e == api.OK && digits.Word(n) != s {
			t.Errorf("ParseWord(%q) = %d, which is written %q", s, n, digits.Word(n))
		}
	}
	// One digit: 4. Two to four: 3 letters lead. Below 0: without 0, of up to three digits.
	if want := 4 + 3*4 + 3*16 + 3*64 + 3 + 3*4 + 3*16; read != want {
		t.Errorf("%d texts were read, want %d", read, want)
	}
}
