package impl

import (
	"strconv"
	"strings"
)

// MaxNumber is the greatest absolute value of a number.
const MaxNumber = 400000000

// combination is a value with the x and y that make it: value = a*x + b*y.
type combination struct {
	value int
	x     int
	y     int
}

func FormatInt(n int) string { return strconv.Itoa(n) }

func ParseInt(s string) (int, bool) {
	digits, negative := strings.CutPrefix(s, "-")
	n, ok := parseDigits(digits)
	if negative {
		n = -n
	}
	// A number has one text only: this refuses -0, leading zeros and texts without digits.
	if !ok || FormatInt(n) != s {
		return 0, false
	}
	return n, true
}

// parseDigits gives up at the first value beyond the limit, so that a long text cannot wrap around to a number.
func parseDigits(s string) (int, bool) {
	n := 0
	for _, c := range s {
		digit, ok := digitOf(c)
		n = 10*n + digit
		if !ok || !IsNumber(n) {
			return 0, false
		}
	}
	return n, true
}

// digitOf knows the digits from 0 to 9 alone: FormatInt writes no digits of other scripts.
func digitOf(c rune) (int, bool) {
	if c < '0' || c > '9' {
		return 0, false
	}
	return int(c - '0'), true
}

func IsNumber(n int) bool { return -MaxNumber <= n && n <= MaxNumber }

func DivideFloor(n int, d int) (int, int, bool) {
	if !IsNumber(n) || !IsNumber(d) || d == 0 {
		return 0, 0, false
	}
	q, r := n/d, n%d
	// Go rounds towards zero, so the remainder of a negative n is negative, whatever the sign of d.
	if r < 0 && d > 0 {
		return q - 1, r + d, true
	}
	if r < 0 {
		return q + 1, r - d, true
	}
	return q, r, true
}

func GcdOf(a int, b int) int {
	if !IsNumber(a) || !IsNumber(b) {
		return 0
	}
	return greatestDivisor(a, b)
}

// greatestDivisor is not held to the limit: fractions are brought to lowest terms from products of numbers.
func greatestDivisor(a int, b int) int {
	for b != 0 {
		a, b = b, a%b
	}
	return max(a, -a)
}

func ExtendedGcd(a int, b int) (int, int, int, bool) {
	if !IsNumber(a) || !IsNumber(b) {
		return 0, 0, 0, false
	}
	first, second := combination{a, 1, 0}, combination{b, 0, 1}
	for second.value != 0 {
		quotient := first.value / second.value
		first, second = second, lessTimes(first, second, quotient)
	}
	if first.value < 0 {
		first = lessTimes(combination{}, first, 1)
	}
	return first.value, first.x, first.y, true
}

// lessTimes returns c less d taken so many times, which is a combination of the same a and b.
func lessTimes(c combination, d combination, times int) combination {
	return combination{c.value - times*d.value, c.x - times*d.x, c.y - times*d.y}
}
