// Package digits is layer 1: see shared/doc/01-digits.md.
package digits

import (
	"math/bits"
	"strings"

	"horarium/api"
)

// Print: n's text.
func Print(n int) string {
	if n < 0 {
		return "-" + Word(sizeOf(n))
	}
	return Word(sizeOf(n))
}

// Parse: the number whose text s is.
func Parse(s string) (int, api.Errno) {
	rest, below := strings.CutPrefix(s, "-")
	if below && rest == "0" {
		return 0, api.ErrForm
	}
	size, err := ParseWord(rest)
	if err != api.OK {
		return 0, err
	}
	n, ok := signed(size, below)
	if !ok {
		return 0, api.ErrRange
	}
	return n, api.OK
}

// Word: n's text.
func Word(n uint64) string {
	text := make([]byte, length(n))
	for i := range len(text) {
		text[len(text)-1-i] = '0' + byte(n%10)
		n /= 10
	}
	return string(text)
}

// ParseWord: the number, not below 0, whose text s is.
func ParseWord(s string) (uint64, api.Errno) {
	// The whole form is looked at first: a text that is none has ErrForm, too, where its digits alone would be out of range.
	if !formed(s) {
		return 0, api.ErrForm
	}
	n := uint64(0)
	for i := range len(s) {
		high, tens := bits.Mul64(n, 10)
		next, carry := bits.Add64(tens, uint64(s[i]-'0'), 0)
		if high != 0 || carry != 0 {
			return 0, api.ErrRange
		}
		n = next
	}
	return n, api.OK
}

// Within: Parse's number, if it is from low to high.
func Within(s string, low int, high int) (int, api.Errno) {
	n, err := Parse(s)
	if err != api.OK {
		return 0, err
	}
	if n < low || n > high {
		return 0, api.ErrRange
	}
	return n, api.OK
}

// Add: a + b, if it is an int.
func Add(a int, b int) (int, bool) {
	sum := a + b
	// A sum that has wrapped round lies on the wrong side of a.
	if (sum < a) != (b < 0) {
		return 0, false
	}
	return sum, true
}

// Mul: a * b, if it is an int.
func Mul(a int, b int) (int, bool) {
	high, low := bits.Mul64(sizeOf(a), sizeOf(b))
	if high != 0 {
		return 0, false
	}
	return signed(low, (a < 0) != (b < 0))
}

// formed tells whether s is digits, at least one, without noughts ahead of others.
func formed(s string) bool {
	if s == "" || s[0] == '0' && len(s) > 1 {
		return false
	}
	for i := range len(s) {
		if s[i] < '0' || s[i] > '9' {
			return false
		}
	}
	return true
}

// length: how many digits n's text has.
func length(n uint64) int {
	digits := 1
	for n >= 10 {
		n /= 10
		digits++
	}
	return digits
}

// sizeOf: n without its sign.
func sizeOf(n int) uint64 {
	if n < 0 {
		// -2^63 has a size as a uint64 alone.
		return -uint64(n)
	}
	return uint64(n)
}

// signed: the int of that size, below 0 or not; 0, false, if there is none.
func signed(size uint64, below bool) (int, bool) {
	// There is one int more below 0 than above it.
	if below && size <= 1<<63 {
		return int(-size), true
	}
	if !below && size < 1<<63 {
		return int(size), true
	}
	return 0, false
}
