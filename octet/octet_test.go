package octet_test

import (
	"bytes"
	"encoding/binary"
	"math"
	"math/rand"
	"slices"
	"strings"
	"testing"

	"horarium/api"
	"horarium/octet"
)

const long = 1 << 20

// What is told of a number that is cut short, in the right form or not, hangs on the first ten bytes.
const longest = 10

// edges are numbers at which their bytes become more, or other ones.
func edges() []uint64 {
	out := []uint64{0, 1, 2, 3, 63, 64, 65, 100, 127, 128, 129, 255, 256, 257, 300, 1000, 16383, 16384, 16385}
	for i := range 64 {
		out = append(out, 1<<i, 1<<i-1, 1<<i+1)
	}
	for i := range 10 {
		out = append(out, math.MaxUint64<<(7*i), math.MaxUint64>>(7*i), 0x55<<(7*i), 0xaaaaaaaaaaaaaaaa>>i)
	}
	out = append(out, math.MaxUint64, math.MaxUint64-1, math.MaxInt64, math.MaxInt64-1, 1<<63, 1<<63+1)
	chance := rand.New(rand.NewSource(1))
	for range 3000 {
		out = append(out, chance.Uint64()>>chance.Intn(64))
	}
	return out
}

// edgesOfInts are the same as ints, and below 0.
func edgesOfInts() []int {
	out := []int{math.MinInt64, math.MinInt64 + 1, math.MaxInt64, math.MaxInt64 - 1}
	for _, n := range edges() {
		out = append(out, int(n), -int(n))
	}
	return out
}

// texts are texts of all kinds, the same in each run.
func texts() []string {
	out := []string{"", "a", "\x00", "\x00\x00", "\x80", "\xff", "ab", "a b", "h\u00f6rsaal", "\n", "%", "\x01\x02", "\xac\x02"}
	for _, length := range []int{63, 64, 126, 127, 128, 129, 255, 256, 300, 16383, 16384, 16385} {
		out = append(out, strings.Repeat("x", length), strings.Repeat("\x80", length), strings.Repeat("\x00", length))
	}
	chance := rand.New(rand.NewSource(2))
	for range 300 {
		row := make([]byte, chance.Intn(300))
		chance.Read(row)
		out = append(out, string(row))
	}
	return out
}

// lists are lists of all lengths, the same in each run.
func lists() [][]int {
	ints := edgesOfInts()
	out := [][]int{{}, {0}, {-1}, {1}, {0, 0}, {0, -1, 1, 63, 64, -64, -65}, {math.MinInt64, math.MaxInt64}, ints}
	for _, length := range []int{126, 127, 128, 129, 16383, 16384} {
		out = append(out, make([]int, length))
	}
	chance := rand.New(rand.NewSource(3))
	for range 300 {
		row := make([]int, chance.Intn(20))
		for i := range row {
			row[i] = ints[chance.Intn(len(ints))]
		}
		out = append(out, row)
	}
	return out
}

// The chapter's words once more, by means of their own

func bytesOf(n uint64) []byte { return binary.AppendUvarint(nil, n) }

func bytesOfInt(n int) []byte {
	if n >= 0 {
		return bytesOf(2 * uint64(n))
	}
	return bytesOf(2*uint64(-(n+1)) + 1)
}

func bytesOfText(s string) []byte { return slices.Concat(bytesOf(uint64(len(s))), []byte(s)) }

func bytesOfList(l []int) []byte {
	out := bytesOf(uint64(len(l)))
	for _, n := range l {
		out = slices.Concat(out, bytesOfInt(n))
	}
	return out
}

// truth: what Take answers.
func truth(b []byte, at int) (uint64, int, api.Errno) {
	if at < 0 || at > len(b) {
		return 0, 0, api.ErrArg
	}
	rest := b[at:]
	high := 0
	for high < len(rest) && rest[high] >= 128 {
		high++
	}
	switch {
	case high >= 10:
		return 0, 0, api.ErrForm
	case high == 9 && len(rest) >= 10 && rest[9] > 1:
		return 0, 0, api.ErrForm
	case high == len(rest):
		return 0, 0, api.ErrShort
	case high > 0 && rest[high] == 0:
		return 0, 0, api.ErrForm
	}
	n, width := binary.Uvarint(rest)
	return n, at + width, api.OK
}

// truthOfInt: what TakeInt answers.
func truthOfInt(b []byte, at int) (int, int, api.Errno) {
	n, next, err := truth(b, at)
	if err == api.OK && n%2 == 1 {
		return -int(n/2) - 1, next, err
	}
	return int(n / 2), next, err
}

// truthOfText: what TakeText answers.
func truthOfText(b []byte, at int, most int) (string, int, api.Errno) {
	n, next, err := truth(b, at)
	switch {
	case err != api.OK:
		return "", 0, err
	case most < 0 || n > uint64(most):
		return "", 0, api.ErrLong
	case n > uint64(len(b)-next):
		return "", 0, api.ErrShort
	}
	return string(b[next : next+int(n)]), next + int(n), api.OK
}

// truthOfList: what TakeList answers.
func truthOfList(b []byte, at int, most int) ([]int, int, api.Errno) {
	n, next, err := truth(b, at)
	switch {
	case err != api.OK:
		return nil, 0, err
	case most < 0 || n > uint64(most):
		return nil, 0, api.ErrLong
	}
	var out []int
	for uint64(len(out)) < n {
		x, behind, err := truthOfInt(b, next)
		if err != api.OK {
			return nil, 0, err
		}
		out, next = append(out, x), behind
	}
	return out, next, api.OK
}

func wantBytes(t *testing.T, call string, got, want []byte) {
	t.Helper()
	if !bytes.Equal(got, want) {
		t.Errorf("%s is % .30x (%d bytes), want % .30x (%d bytes)", call, got, len(got), want, len(want))
	}
}

func wantTake(t *testing.T, b []byte, at int, n uint64, next int, err api.Errno) {
	t.Helper()
	if got, behind, e := octet.Take(b, at); got != n || behind != next || e != err {
		t.Errorf("Take(% .30x, %d) = %d, %d, %d, want %d, %d, %d", b, at, got, behind, e, n, next, err)
	}
}

func wantTakeInt(t *testing.T, b []byte, at int, n int, next int, err api.Errno) {
	t.Helper()
	if got, behind, e := octet.TakeInt(b, at); got != n || behind != next || e != err {
		t.Errorf("TakeInt(% .30x, %d) = %d, %d, %d, want %d, %d, %d", b, at, got, behind, e, n, next, err)
	}
}

func wantTakeText(t *testing.T, b []byte, at, most int, s string, next int, err api.Errno) {
	t.Helper()
	if got, behind, e := octet.TakeText(b, at, most); got != s || behind != next || e != err {
		t.Errorf("TakeText(% .30x, %d, %d) = %.30q, %d, %d, want %.30q, %d, %d", b, at, most, got, behind, e, s, next, err)
	}
}

func wantTakeList(t *testing.T, b []byte, at, most int, l []int, next int, err api.Errno) {
	t.Helper()
	if got, behind, e := octet.TakeList(b, at, most); !slices.Equal(got, l) || behind != next || e != err {
		t.Errorf("TakeList(% .30x, %d, %d) = %d (%d ints), %d, %d, want %d (%d ints), %d, %d", b, at, most, got[:min(len(got), 9)], len(got), behind, e, l[:min(len(l), 9)], len(l), next, err)
	}
}

// wantRefused: none of the calls takes anything; each has that error.
func wantRefused(t *testing.T, b []byte, at int, err api.Errno) {
	t.Helper()
	wantTake(t, b, at, 0, 0, err)
	wantTakeInt(t, b, at, 0, 0, err)
	// The number's error is told ahead of ErrLong, whatever most is.
	for _, most := range []int{math.MinInt64, -1, 0, 1, 1000, math.MaxInt64} {
		wantTakeText(t, b, at, most, "", 0, err)
		wantTakeList(t, b, at, most, nil, 0, err)
	}
}

// mosts are limits around a length.
func mosts(length int) []int {
	return []int{math.MinInt64, -length - 1, -1, 0, 1, length - 1, length, length + 1, 1000, math.MaxInt64 - 1, math.MaxInt64}
}

// everyWay holds all four calls against the chapter's words, at each place of b and around it.
func everyWay(t *testing.T, b []byte) {
	t.Helper()
	for at := -2; at <= len(b)+2; at++ {
		n, next, err := truth(b, at)
		wantTake(t, b, at, n, next, err)
		i, next, err := truthOfInt(b, at)
		wantTakeInt(t, b, at, i, next, err)
		for _, most := range []int{-1, 0, 1, 2, 3, 127, math.MaxInt64} {
			s, next, err := truthOfText(b, at, most)
			wantTakeText(t, b, at, most, s, next, err)
			l, next, err := truthOfList(b, at, most)
			wantTakeList(t, b, at, most, l, next, err)
		}
	}
}

// overLetters are all rows of at most so many of the bytes.
func overLetters(letters string, most int) []string {
	out := []string{""}
	for from := 0; from < len(out) && len(out[from]) < most; from++ {
		for i := range len(letters) {
			out = append(out, out[from]+letters[i:i+1])
		}
	}
	return out
}

// P3.1: Put, PutInt, PutText, PutList

func TestPut(t *testing.T) {
	for _, c := range []struct {
		n    uint64
		want string
	}{
		{0, "\x00"}, {1, "\x01"}, {2, "\x02"}, {100, "\x64"}, {127, "\x7f"},
		{128, "\x80\x01"}, {129, "\x81\x01"}, {255, "\xff\x01"}, {256, "\x80\x02"}, {300, "\xac\x02"}, {16383, "\xff\x7f"},
		{16384, "\x80\x80\x01"}, {16385, "\x81\x80\x01"}, {1<<21 - 1, "\xff\xff\x7f"}, {1 << 21, "\x80\x80\x80\x01"}, {1 << 32, "\x80\x80\x80\x80\x10"},
		{1<<56 - 1, "\xff\xff\xff\xff\xff\xff\xff\x7f"}, {1 << 56, "\x80\x80\x80\x80\x80\x80\x80\x80\x01"},
		{1<<63 - 1, "\xff\xff\xff\xff\xff\xff\xff\xff\x7f"}, {1 << 63, "\x80\x80\x80\x80\x80\x80\x80\x80\x80\x01"},
		{math.MaxUint64 - 1, "\xfe\xff\xff\xff\xff\xff\xff\xff\xff\x01"}, {math.MaxUint64, "\xff\xff\xff\xff\xff\xff\xff\xff\xff\x01"},
	} {
		wantBytes(t, "Put", octet.Put(c.n), []byte(c.want))
		wantTake(t, []byte(c.want), 0, c.n, len(c.want), api.OK)
	}
}

func TestPutInt(t *testing.T) {
	for _, c := range []struct {
		n    int
		want string
	}{
		{0, "\x00"}, {-1, "\x01"}, {1, "\x02"}, {-2, "\x03"}, {2, "\x04"}, {63, "\x7e"}, {-64, "\x7f"}, {64, "\x80\x01"}, {-65, "\x81\x01"},
		{150, "\xac\x02"}, {-150, "\xab\x02"}, {8191, "\xfe\x7f"}, {-8192, "\xff\x7f"}, {8192, "\x80\x80\x01"},
		{1<<62 - 1, "\xfe\xff\xff\xff\xff\xff\xff\xff\x7f"}, {-1 << 62, "\xff\xff\xff\xff\xff\xff\xff\xff\x7f"}, {1 << 62, "\x80\x80\x80\x80\x80\x80\x80\x80\x80\x01"},
		{math.MaxInt64, "\xfe\xff\xff\xff\xff\xff\xff\xff\xff\x01"}, {math.MaxInt64 - 1, "\xfc\xff\xff\xff\xff\xff\xff\xff\xff\x01"},
		{math.MinInt64, "\xff\xff\xff\xff\xff\xff\xff\xff\xff\x01"}, {math.MinInt64 + 1, "\xfd\xff\xff\xff\xff\xff\xff\xff\xff\x01"},
	} {
		wantBytes(t, "PutInt", octet.PutInt(c.n), []byte(c.want))
		wantTakeInt(t, []byte(c.want), 0, c.n, len(c.want), api.OK)
	}
}

func TestPutText(t *testing.T) {
	for _, c := range []struct{ s, want string }{
		{"", "\x00"}, {"a", "\x01a"}, {"ab", "\x02ab"}, {"\x00", "\x01\x00"}, {"\xff", "\x01\xff"}, {"h\u00f6", "\x03h\xc3\xb6"},
		{strings.Repeat("x", 127), "\x7f" + strings.Repeat("x", 127)}, {strings.Repeat("x", 128), "\x80\x01" + strings.Repeat("x", 128)},
		{strings.Repeat("x", 300), "\xac\x02" + strings.Repeat("x", 300)}, {strings.Repeat("x", 16384), "\x80\x80\x01" + strings.Repeat("x", 16384)},
	} {
		wantBytes(t, "PutText", octet.PutText(c.s), []byte(c.want))
		wantTakeText(t, []byte(c.want), 0, len(c.s), c.s, len(c.want), api.OK)
	}
}

func TestPutList(t *testing.T) {
	for _, c := range []struct {
		l    []int
		want string
	}{
		{[]int{}, "\x00"}, {[]int{0}, "\x01\x00"}, {[]int{-1}, "\x01\x01"}, {[]int{1}, "\x01\x02"}, {[]int{0, 0}, "\x02\x00\x00"},
		{[]int{1, -2, 150}, "\x03\x02\x03\xac\x02"}, {[]int{64, 63}, "\x02\x80\x01\x7e"},
		{[]int{math.MaxInt64, 0, math.MinInt64}, "\x03\xfe\xff\xff\xff\xff\xff\xff\xff\xff\x01\x00\xff\xff\xff\xff\xff\xff\xff\xff\xff\x01"},
		{make([]int, 127), "\x7f" + strings.Repeat("\x00", 127)}, {make([]int, 128), "\x80\x01" + strings.Repeat("\x00", 128)},
	} {
		wantBytes(t, "PutList", octet.PutList(c.l), []byte(c.want))
		wantTakeList(t, []byte(c.want), 0, len(c.l), c.l, len(c.want), api.OK)
	}
	wantBytes(t, "PutList(nil)", octet.PutList(nil), []byte{0})
}

func TestPutAgainstTheChapter(t *testing.T) {
	for _, n := range edges() {
		wantBytes(t, "Put", octet.Put(n), bytesOf(n))
	}
	for _, n := range edgesOfInts() {
		wantBytes(t, "PutInt", octet.PutInt(n), bytesOfInt(n))
	}
	for _, s := range texts() {
		wantBytes(t, "PutText", octet.PutText(s), bytesOfText(s))
	}
	for _, l := range lists() {
		wantBytes(t, "PutList", octet.PutList(l), bytesOfList(l))
	}
}

// P3.2: Take, TakeInt

func TestPlacesThatAreNone(t *testing.T) {
	for _, b := range [][]byte{nil, {}, {0}, {5}, {1, 1, 1}, {128}, {128, 0}, bytes.Repeat([]byte{255}, 12)} {
		for _, at := range []int{math.MinInt64, math.MinInt64 + 1, -longest, -2, -1, len(b) + 1, len(b) + 2, len(b) + longest, math.MaxInt64 - longest, math.MaxInt64 - 1, math.MaxInt64} {
			wantRefused(t, b, at, api.ErrArg)
		}
		// At the length there are no bytes, but a place there is.
		wantRefused(t, b, len(b), api.ErrShort)
	}
}

// TestSpareRoomIsNoByte: what stands behind a row's length is not read.
func TestSpareRoomIsNoByte(t *testing.T) {
	whole := []byte{0xac, 2, 2, 2, 2, 2}
	wantRefused(t, whole[:0], 0, api.ErrShort)
	wantRefused(t, whole[:1], 0, api.ErrShort)
	wantRefused(t, whole[:1], 2, api.ErrArg)
	wantTakeText(t, whole[:4], 2, 9, "", 0, api.ErrShort)
	wantTakeList(t, whole[:4], 2, 9, nil, 0, api.ErrShort)
}

func TestTakeAtItsPlace(t *testing.T) {
	b := []byte{7, 0xac, 2, 0x80, 0x80, 1, 0}
	wantTake(t, b, 0, 7, 1, api.OK)
	wantTake(t, b, 1, 300, 3, api.OK)
	wantTake(t, b, 2, 2, 3, api.OK)
	wantTake(t, b, 3, 16384, 6, api.OK)
	wantTake(t, b, 4, 128, 6, api.OK)
	wantTake(t, b, 6, 0, 7, api.OK)
	wantTakeInt(t, b, 0, -4, 1, api.OK)
	wantTakeInt(t, b, 1, 150, 3, api.OK)
	wantTakeInt(t, b, 5, -1, 6, api.OK)
	wantTakeInt(t, b, 6, 0, 7, api.OK)
}

// TestLastByteNought: such a number has fewer bytes, but for 0 itself.
func TestLastByteNought(t *testing.T) {
	wantTake(t, []byte{0}, 0, 0, 1, api.OK)
	for high := 1; high <= 9; high++ {
		for _, x := range []byte{128, 129, 255} {
			row := append(bytes.Repeat([]byte{x}, high), 0)
			wantRefused(t, row, 0, api.ErrForm)
			wantRefused(t, append(row, 1, 2, 3), 0, api.ErrForm)
			// From its last byte on it is the number 0.
			wantTake(t, row, high, 0, high+1, api.OK)
		}
	}
	wantRefused(t, []byte{0x80, 0x00}, 0, api.ErrForm)
	wantRefused(t, []byte{0xac, 0x82, 0x00}, 0, api.ErrForm)
}

// TestCutNumbers: each number that is cut ahead of its last byte.
func TestCutNumbers(t *testing.T) {
	for _, n := range []uint64{128, 300, 16384, 1 << 35, 1 << 56, 1 << 62, 1 << 63, math.MaxUint64} {
		row := bytesOf(n)
		for length := range len(row) {
			wantRefused(t, row[:length], 0, api.ErrShort)
			wantRefused(t, slices.Concat([]byte{3, 0}, row[:length]), 2, api.ErrShort)
		}
	}
	for high := range longest {
		wantRefused(t, bytes.Repeat([]byte{128}, high), 0, api.ErrShort)
		wantRefused(t, bytes.Repeat([]byte{255}, high), 0, api.ErrShort)
	}
}

// TestTooManyHighBytes: ten bytes of 128 or more begin no number, whatever comes behind them, or nothing.
func TestTooManyHighBytes(t *testing.T) {
	for _, high := range []int{10, 11, 12, 20, 1000} {
		for _, x := range []byte{128, 129, 254, 255} {
			row := bytes.Repeat([]byte{x}, high)
			wantRefused(t, row, 0, api.ErrForm)
			wantRefused(t, append(row, 0), 0, api.ErrForm)
			wantRefused(t, append(row, 1), 0, api.ErrForm)
			wantRefused(t, slices.Concat([]byte{1, 2}, row), 2, api.ErrForm)
			// Of the last nine of them the end comes first.
			wantRefused(t, row, high-9, api.ErrShort)
			wantRefused(t, row, high-10, api.ErrForm)
		}
	}
}

// TestEachTenthByte: behind nine bytes of 128 or more just a 1 ends a number.
func TestEachTenthByte(t *testing.T) {
	for x := range 256 {
		noughts, ones := bytes.Repeat([]byte{128}, 9), bytes.Repeat([]byte{255}, 9)
		if x == 1 {
			wantTake(t, append(noughts, 1), 0, 1<<63, 10, api.OK)
			wantTake(t, append(ones, 1), 0, math.MaxUint64, 10, api.OK)
			wantTake(t, append(ones, 1, 1, 200), 0, math.MaxUint64, 10, api.OK)
			wantTakeInt(t, append(noughts, 1), 0, 1<<62, 10, api.OK)
			wantTakeInt(t, append(ones, 1), 0, math.MinInt64, 10, api.OK)
			continue
		}
		wantRefused(t, append(noughts, byte(x)), 0, api.ErrForm)
		wantRefused(t, append(ones, byte(x)), 0, api.ErrForm)
		wantRefused(t, append(ones, byte(x), 1, 0), 0, api.ErrForm)
	}
}

// TestEachOfTwoBytes goes through all two bytes.
func TestEachOfTwoBytes(t *testing.T) {
	for a := range 256 {
		for b := range 256 {
			row := []byte{byte(a), byte(b)}
			switch {
			case a < 128:
				wantTake(t, row, 0, uint64(a), 1, api.OK)
			case b >= 128:
				wantTake(t, row, 0, 0, 0, api.ErrShort)
			case b == 0:
				wantTake(t, row, 0, 0, 0, api.ErrForm)
			default:
				wantTake(t, row, 0, uint64(a-128+128*b), 2, api.OK)
			}
		}
	}
}

// TestShortRowsAgainstTheChapter: all short rows of the bytes at which answers change, behind bytes of which a number may consist so far.
func TestShortRowsAgainstTheChapter(t *testing.T) {
	rows := overLetters("\x00\x01\x02\x7f\x80\xff", 3)
	for _, high := range []int{0, 1, 2, 6, 7, 8, 9, 10} {
		for _, x := range []string{"\x80", "\xff"} {
			for _, row := range rows {
				everyWay(t, []byte(strings.Repeat(x, high)+row))
			}
		}
	}
	for _, row := range overLetters("\x00\x01\x03\x80\x81", 5) {
		everyWay(t, []byte(row))
	}
}

func TestAnyRowsAgainstTheChapter(t *testing.T) {
	chance := rand.New(rand.NewSource(4))
	for range 3000 {
		row := make([]byte, chance.Intn(16))
		chance.Read(row)
		for i := range row {
			// Small bytes make lengths that fit, great ones long numbers.
			if turn := chance.Intn(4); turn == 0 {
				row[i] %= 4
			} else if turn == 1 {
				row[i] |= 128
			}
		}
		everyWay(t, row)
	}
}

// P3.3: TakeText, TakeList

func TestTakeTextAtItsLimits(t *testing.T) {
	for _, length := range []int{0, 1, 2, 3, 127, 128, 300} {
		s := strings.Repeat("z", length)
		b := slices.Concat([]byte{9}, bytesOfText(s), []byte{9, 9})
		for _, most := range mosts(length) {
			if most < length {
				wantTakeText(t, b, 1, most, "", 0, api.ErrLong)
			} else {
				wantTakeText(t, b, 1, most, s, len(b)-2, api.OK)
			}
		}
	}
}

func TestTakeListAtItsLimits(t *testing.T) {
	for _, length := range []int{0, 1, 2, 3, 127, 128, 300} {
		l := slices.Repeat([]int{-65}, length)
		b := slices.Concat([]byte{9}, bytesOfList(l), []byte{9, 9})
		for _, most := range mosts(length) {
			if most < length {
				wantTakeList(t, b, 1, most, nil, 0, api.ErrLong)
			} else {
				wantTakeList(t, b, 1, most, l, len(b)-2, api.OK)
			}
		}
	}
}

// TestFewerBytesThanTold: texts and lists that are cut; that they are too long is told ahead of it.
func TestFewerBytesThanTold(t *testing.T) {
	for _, length := range []int{1, 2, 3, 127, 128, 300} {
		text, list := bytesOfText(strings.Repeat("z", length)), bytesOfList(slices.Repeat([]int{77}, length))
		head := len(bytesOf(uint64(length)))
		for _, cut := range []int{head, head + 1, (head + len(text)) / 2, len(text) - 1} {
			wantTakeText(t, text[:min(cut, len(text)-1)], 0, length, "", 0, api.ErrShort)
			wantTakeText(t, text[:min(cut, len(text)-1)], 0, length-1, "", 0, api.ErrLong)
		}
		for _, cut := range []int{head, head + 1, (head + len(list)) / 2, len(list) - 2, len(list) - 1} {
			wantTakeList(t, list[:cut], 0, length, nil, 0, api.ErrShort)
			wantTakeList(t, list[:cut], 0, length-1, nil, 0, api.ErrLong)
		}
	}
}

// TestTellingOfVeryMany: a length may be any number, however few bytes there are.
func TestTellingOfVeryMany(t *testing.T) {
	for _, length := range []uint64{1 << 20, 1 << 31, 1 << 40, 1 << 62, math.MaxInt64 - 1, math.MaxInt64, 1 << 63, 1<<63 + 1, math.MaxUint64 - 1, math.MaxUint64} {
		for _, behind := range []string{"", "a", "abc", "\x80", "\x80\x00"} {
			b := append(bytesOf(length), behind...)
			// Of a list the bytes behind it may be wrong ahead of their end.
			inner := api.ErrShort
			if strings.HasSuffix(behind, "\x00") {
				inner = api.ErrForm
			}
			for _, most := range []int{math.MinInt64, -1, 0, 1<<20 - 1, 1 << 20, 1 << 62, math.MaxInt64 - 1, math.MaxInt64} {
				if most < 0 || length > uint64(most) {
					wantTakeText(t, b, 0, most, "", 0, api.ErrLong)
					wantTakeList(t, b, 0, most, nil, 0, api.ErrLong)
				} else {
					wantTakeText(t, b, 0, most, "", 0, api.ErrShort)
					wantTakeList(t, b, 0, most, nil, 0, inner)
				}
			}
		}
	}
}

// TestWrongIntsOfLists lays into each place of a list an int that is none, or cut.
func TestWrongIntsOfLists(t *testing.T) {
	for _, c := range []struct {
		wrong string
		err   api.Errno
	}{
		{"\x80\x00", api.ErrForm}, {"\xff\xff\x00", api.ErrForm}, {strings.Repeat("\x80", 10), api.ErrForm}, {strings.Repeat("\xff", 9) + "\x02", api.ErrForm}, {strings.Repeat("\xff", 9) + "\x00", api.ErrForm},
		{"", api.ErrShort}, {"\x80", api.ErrShort}, {"\xff\xff", api.ErrShort}, {strings.Repeat("\xff", 9), api.ErrShort},
	} {
		for length := 1; length <= 5; length++ {
			for at := range length {
				b := slices.Concat(bytesOf(uint64(length)), bytes.Repeat([]byte{5}, at), []byte(c.wrong))
				wantTakeList(t, b, 0, length, nil, 0, c.err)
				wantTakeList(t, b, 0, length-1, nil, 0, api.ErrLong)
				// A list that ends ahead of it is taken.
				short := slices.Concat(bytesOf(uint64(at)), b[1:])
				wantTakeList(t, short, 0, length, slices.Repeat([]int{-3}, at), at+1, api.OK)
				if c.err == api.ErrForm {
					// The first int that is wrong is told, not one behind it.
					wantTakeList(t, append(b, 0x80), 0, length, nil, 0, api.ErrForm)
				}
			}
		}
	}
}

// P3.4: what follows

var aheads = []string{"", "\x00", "\x80", "\xff\xff\xff\xff\xff\xff\xff\xff\xff\xff\xff", "abc\x81"}

var behinds = []string{"", "\x00", "\x01", "\x80", "\xff\xff\xff\xff\xff\xff\xff\xff\xff\xff\xff", "\x00\x00xyz"}

// between tells each way in which a row may have bytes ahead and behind, with the places at which it begins and ends.
func between(row []byte, tell func(b []byte, at, next int)) {
	for _, ahead := range aheads {
		for _, behind := range behinds {
			tell(slices.Concat([]byte(ahead), row, []byte(behind)), len(ahead), len(ahead)+len(row))
		}
	}
}

func TestWhatWasPutIsTakenAgain(t *testing.T) {
	for _, n := range edges() {
		between(octet.Put(n), func(b []byte, at, next int) { wantTake(t, b, at, n, next, api.OK) })
	}
	for _, n := range edgesOfInts() {
		between(octet.PutInt(n), func(b []byte, at, next int) { wantTakeInt(t, b, at, n, next, api.OK) })
	}
	for _, s := range texts() {
		between(octet.PutText(s), func(b []byte, at, next int) { wantTakeText(t, b, at, len(s), s, next, api.OK) })
	}
	for _, l := range lists() {
		between(octet.PutList(l), func(b []byte, at, next int) { wantTakeList(t, b, at, len(l), l, next, api.OK) })
	}
}

// TestWhatIsTakenHasJustThoseBytes: what is taken is put as it stood; no number, text or list has two forms.
func TestWhatIsTakenHasJustThoseBytes(t *testing.T) {
	for _, row := range append(overLetters("\x00\x01\x02\x03\x80\xff", 5), overLetters("\x00\x01\x7f\x81", 6)...) {
		b := []byte(row)
		if n, next, err := octet.Take(b, 0); err == api.OK {
			wantBytes(t, "Put of Take", octet.Put(n), b[:next])
		}
		if n, next, err := octet.TakeInt(b, 0); err == api.OK {
			wantBytes(t, "PutInt of TakeInt", octet.PutInt(n), b[:next])
		}
		if s, next, err := octet.TakeText(b, 0, 9); err == api.OK {
			wantBytes(t, "PutText of TakeText", octet.PutText(s), b[:next])
		}
		if l, next, err := octet.TakeList(b, 0, 9); err == api.OK {
			wantBytes(t, "PutList of TakeList", octet.PutList(l), b[:next])
		}
	}
}

// The rules of the whole

// TestHandedInStays: bytes and lists that are handed in stay as they were, their spare room, too, and their ends, which are cut from them, are not written over (R4).
func TestHandedInStays(t *testing.T) {
	text, list := bytesOfText("spare room"), bytesOfList([]int{1, -2, 300})
	whole := slices.Concat(text, list, []byte("behind"))
	was := slices.Clone(whole)
	for length := range len(whole) + 1 {
		b := whole[:length]
		for at := -1; at <= length+1; at++ {
			n, _, _ := octet.Take(b, at)
			octet.TakeInt(b, at)
			s, _, _ := octet.TakeText(b, at, 100)
			l, _, _ := octet.TakeList(b, at, 100)
			_ = append(octet.Put(n), s...)
			_ = append(l, 9)
		}
		wantBytes(t, "what was handed in", whole, was)
	}
	ints := []int{1, -2, 3, 4, 5}
	octet.PutList(ints[:3])
	if !slices.Equal(ints, []int{1, -2, 3, 4, 5}) {
		t.Errorf("a list that was handed in is now %d", ints)
	}
}

// TestHandedOutIsNew: what was handed out may be changed, and what was handed in, too: neither is to be seen in the other, nor in a later answer (R4, R6).
func TestHandedOutIsNew(t *testing.T) {
	for range 3 {
		wantBytes(t, "Put(300)", octet.Put(300), []byte{0xac, 2})
		wantBytes(t, "PutInt(-1)", octet.PutInt(-1), []byte{1})
		wantBytes(t, "PutText(ab)", octet.PutText("ab"), []byte("\x02ab"))
		wantBytes(t, "PutList(1, 2)", octet.PutList([]int{1, 2}), []byte{2, 2, 4})
		for _, row := range [][]byte{octet.Put(300), octet.PutInt(-1), octet.PutText("ab"), octet.PutList([]int{1, 2})} {
			row = append(row, 1, 2, 3)
			clear(row[:cap(row)])
		}
		b := []byte{2, 2, 4}
		s, _, _ := octet.TakeText(b, 0, 2)
		l, _, _ := octet.TakeList(b, 0, 2)
		other, _, _ := octet.TakeList(b, 0, 2)
		clear(b)
		clear(other[:cap(other)])
		if s != "\x02\x04" || !slices.Equal(l, []int{1, 2}) {
			t.Errorf("what was taken is now %q and %d", s, l)
		}
	}
}

// TestNothingIsAppendedToWhatIsCut: two rows that begin alike are both as they were made.
func TestNothingIsAppendedToWhatIsCut(t *testing.T) {
	for _, n := range []uint64{0, 5, 300, 1 << 40, math.MaxUint64} {
		row := octet.Put(n)
		one, other := append(row, 1), append(row, 2)
		wantBytes(t, "one row", one, append(bytesOf(n), 1))
		wantBytes(t, "the other row", other, append(bytesOf(n), 2))
		row = octet.PutInt(int(n))
		one, other = append(row, 1), append(row, 2)
		wantBytes(t, "one row", one, append(bytesOfInt(int(n)), 1))
		wantBytes(t, "the other row", other, append(bytesOfInt(int(n)), 2))
	}
}

// TestLongRows: what is long takes no longer, piece by piece, than what is short.
func TestLongRows(t *testing.T) {
	s, l := strings.Repeat("\xff", long), slices.Repeat([]int{math.MinInt64}, long/8)
	wantTakeText(t, octet.PutText(s), 0, len(s), s, len(s)+3, api.OK)
	b := octet.PutList(l)
	wantBytes(t, "PutList", b, append(bytesOf(uint64(len(l))), bytes.Repeat(bytesOfInt(math.MinInt64), len(l))...))
	wantTakeList(t, b, 0, len(l), l, len(b), api.OK)
	wantTakeList(t, b[:len(b)-1], 0, len(l), nil, 0, api.ErrShort)
	high := bytes.Repeat([]byte{255}, long)
	for at := range long - 9 {
		if n, next, err := octet.Take(high, at); n != 0 || next != 0 || err != api.ErrForm {
			t.Fatalf("Take of many bytes, at %d: %d, %d, %d", at, n, next, err)
		}
	}
}
