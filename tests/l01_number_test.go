package tests

import (
	"math"
	"strconv"
	"strings"
	"testing"

	"loop.example/g03411/impl"
)

const limit = 400000000

// beyond holds ints that are no numbers: next to the limits, and where negation or a product would wrap around.
var beyond = []int{limit + 1, -limit - 1, 1 << 32, -(1 << 32), math.MaxInt, math.MinInt, math.MinInt + 1}

// samples holds numbers of both signs, small, at the limits, and such that meet in many steps of Euclid's algorithm.
var samples = []int{
	0, 1, -1, 2, -2, 3, -3, 4, 6, 7, -7, 10, -12, 18, 42, 97, -101, 1024, 46368, 75025, -99999,
	267914296, -165580141, 399999999, -399999999, limit, -limit, limit / 2, -limit / 4,
}

func TestMaxNumber(t *testing.T) {
	if impl.MaxNumber != limit {
		t.Errorf("MaxNumber is %d, want %d", impl.MaxNumber, limit)
	}
}

func TestFormatInt(t *testing.T) {
	cases := []struct {
		n    int
		want string
	}{
		{0, "0"}, {7, "7"}, {-7, "-7"}, {10, "10"}, {-10, "-10"}, {100200, "100200"},
		{limit, "400000000"}, {-limit, "-400000000"}, {limit + 1, "400000001"}, {-limit - 1, "-400000001"},
		{math.MaxInt, "9223372036854775807"}, {math.MinInt, "-9223372036854775808"}, {math.MinInt + 1, "-9223372036854775807"},
	}
	for _, c := range cases {
		if got := impl.FormatInt(c.n); got != c.want {
			t.Errorf("FormatInt(%d) = %q, want %q", c.n, got, c.want)
		}
	}
}

func TestIsNumber(t *testing.T) {
	for _, n := range samples {
		if !impl.IsNumber(n) {
			t.Errorf("IsNumber(%d) = false", n)
		}
	}
	for _, n := range beyond {
		if impl.IsNumber(n) {
			t.Errorf("IsNumber(%d) = true", n)
		}
	}
}

func TestParseIntReadsBack(t *testing.T) {
	check := func(n int) {
		t.Helper()
		if got, ok := impl.ParseInt(impl.FormatInt(n)); got != n || !ok {
			t.Errorf("ParseInt(FormatInt(%d)) = %d, %t", n, got, ok)
		}
	}
	for n := -1500; n <= 1500; n++ {
		check(n)
	}
	for n := -limit; n <= limit; n += 99991 {
		check(n)
	}
	for _, n := range samples {
		check(n)
	}
}

func TestParseIntTexts(t *testing.T) {
	cases := []struct {
		s    string
		want int
	}{
		{"0", 0}, {"5", 5}, {"-5", -5}, {"10", 10}, {"-100", -100}, {"123456789", 123456789},
		{"399999999", 399999999}, {"400000000", limit}, {"-400000000", -limit},
	}
	for _, c := range cases {
		if got, ok := impl.ParseInt(c.s); got != c.want || !ok {
			t.Errorf("ParseInt(%q) = %d, %t, want %d, true", c.s, got, ok, c.want)
		}
	}
}

func TestParseIntRefuses(t *testing.T) {
	texts := []string{
		"", "-", "--", "--1", "-0", "-00", "00", "01", "-01", "007", "+1", "+0", "1-", "1-2",
		" ", " 1", "1 ", "1 2", "\t1", "1\n", "1\r\n", "1\x00", "\x001",
		"a", "1a", "a1", "0x1", "1e3", "1.0", "1,000", "1_000", "1/2", "/", ":", "1:", "1/",
		"400000001", "-400000001", "4000000000", "-4000000000", "999999999",
		"9223372036854775807", "-9223372036854775808", "9223372036854775808",
		"18446744073709551616", "18446744073709551617", "-18446744073709551617", "340282366920938463463374607431768211457",
		strings.Repeat("0", 30) + "1", "1" + strings.Repeat("0", 70), strings.Repeat("9", 5000),
		"\u0661", "1\u0662", "\uff11", "\u2212" + "1", "\u00b2", "\u0131", "\U00010331", "\u00a01", "\ufeff1",
		"\xff", "1\xff", "\xff1", "-\xff", "\xc3", "1\xc3", "\xe2\x88", "\xb0", "\xb1", "\xc0\xb1",
	}
	for _, s := range texts {
		if got, ok := impl.ParseInt(s); got != 0 || ok {
			t.Errorf("ParseInt(%q) = %d, %t, want 0, false", s, got, ok)
		}
	}
	for _, n := range beyond {
		if got, ok := impl.ParseInt(strconv.Itoa(n)); got != 0 || ok {
			t.Errorf("ParseInt of %d = %d, %t, want 0, false", n, got, ok)
		}
	}
}

func TestParseIntShortTexts(t *testing.T) {
	// Every text of up to two bytes: accepted exactly where some number is formatted as it.
	want := map[string]int{}
	for n := -9; n <= 99; n++ {
		want[strconv.Itoa(n)] = n
	}
	check := func(s string) {
		t.Helper()
		n, known := want[s]
		if got, ok := impl.ParseInt(s); got != n || ok != known {
			t.Errorf("ParseInt(%q) = %d, %t, want %d, %t", s, got, ok, n, known)
		}
	}
	check("")
	for i := range 256 {
		check(string([]byte{byte(i)}))
		for j := range 256 {
			check(string([]byte{byte(i), byte(j)}))
		}
	}
}

func TestDivideFloor(t *testing.T) {
	cases := []struct{ n, d, q, r int }{
		{7, 3, 2, 1}, {-7, 3, -3, 2}, {7, -3, -2, 1}, {-7, -3, 3, 2},
		{6, 3, 2, 0}, {-6, 3, -2, 0}, {6, -3, -2, 0}, {-6, -3, 2, 0},
		{0, 5, 0, 0}, {0, -5, 0, 0}, {2, 5, 0, 2}, {2, -5, 0, 2}, {-2, 5, -1, 3}, {-2, -5, 1, 3},
		{1, 1, 1, 0}, {-1, 1, -1, 0}, {1, -1, -1, 0}, {-1, -1, 1, 0},
		{limit, 1, limit, 0}, {limit, -1, -limit, 0}, {-limit, 1, -limit, 0}, {-limit, -1, limit, 0},
		{limit, limit, 1, 0}, {-limit, limit, -1, 0}, {limit, -limit, -1, 0}, {-limit, -limit, 1, 0},
		{1, limit, 0, 1}, {-1, limit, -1, limit - 1}, {1, -limit, 0, 1}, {-1, -limit, 1, limit - 1},
		{limit, 3, 133333333, 1}, {-limit, 3, -133333334, 2}, {limit, -3, -133333333, 1}, {-limit, -3, 133333334, 2},
	}
	for _, c := range cases {
		if q, r, ok := impl.DivideFloor(c.n, c.d); q != c.q || r != c.r || !ok {
			t.Errorf("DivideFloor(%d, %d) = %d, %d, %t, want %d, %d, true", c.n, c.d, q, r, ok, c.q, c.r)
		}
	}
}

func TestDivideFloorLaw(t *testing.T) {
	check := func(n, d int) {
		t.Helper()
		q, r, ok := impl.DivideFloor(n, d)
		if !ok || n != q*d+r || r < 0 || r >= max(d, -d) {
			t.Errorf("DivideFloor(%d, %d) = %d, %d, %t", n, d, q, r, ok)
		}
	}
	for n := -60; n <= 60; n++ {
		for d := -20; d <= 20; d++ {
			if d != 0 {
				check(n, d)
			}
		}
	}
	for _, n := range samples {
		for _, d := range samples {
			if d != 0 {
				check(n, d)
			}
		}
	}
}

func TestDivideFloorRefuses(t *testing.T) {
	check := func(n, d int) {
		t.Helper()
		if q, r, ok := impl.DivideFloor(n, d); q != 0 || r != 0 || ok {
			t.Errorf("DivideFloor(%d, %d) = %d, %d, %t, want 0, 0, false", n, d, q, r, ok)
		}
	}
	for _, n := range samples {
		check(n, 0)
	}
	for _, x := range beyond {
		check(x, 0)
		for _, n := range []int{0, 1, -1, 7, -7, limit, -limit, math.MinInt, limit + 1} {
			check(x, n)
			check(n, x)
		}
	}
}

// divisorByTrial is the greatest common divisor found without division steps.
func divisorByTrial(a, b int) int {
	a, b = max(a, -a), max(b, -b)
	if a == 0 || b == 0 {
		return a + b
	}
	for d := min(a, b); ; d-- {
		if a%d == 0 && b%d == 0 {
			return d
		}
	}
}

func TestGcdOf(t *testing.T) {
	cases := []struct{ a, b, want int }{
		{0, 0, 0}, {0, 5, 5}, {5, 0, 5}, {0, -5, 5}, {-5, 0, 5}, {1, 0, 1}, {1, 1, 1}, {-1, -1, 1},
		{12, 18, 6}, {12, -18, 6}, {-12, 18, 6}, {-12, -18, 6}, {18, 12, 6}, {35, 64, 1}, {7, 7, 7}, {-7, 7, 7},
		{limit, limit, limit}, {limit, -limit, limit}, {-limit, 0, limit}, {0, -limit, limit}, {limit, limit - 1, 1},
		{267914296, 165580141, 1}, {limit, 1024, 1024}, {-limit, 3 * 3125, 3125}, {300000000, -400000000, 100000000},
	}
	for _, c := range cases {
		if got := impl.GcdOf(c.a, c.b); got != c.want {
			t.Errorf("GcdOf(%d, %d) = %d, want %d", c.a, c.b, got, c.want)
		}
	}
	for a := -40; a <= 40; a++ {
		for b := -40; b <= 40; b++ {
			if got, want := impl.GcdOf(a, b), divisorByTrial(a, b); got != want {
				t.Errorf("GcdOf(%d, %d) = %d, want %d", a, b, got, want)
			}
		}
	}
}

func TestGcdsRefuse(t *testing.T) {
	check := func(a, b int) {
		t.Helper()
		if got := impl.GcdOf(a, b); got != 0 {
			t.Errorf("GcdOf(%d, %d) = %d, want 0", a, b, got)
		}
		if g, x, y, ok := impl.ExtendedGcd(a, b); g != 0 || x != 0 || y != 0 || ok {
			t.Errorf("ExtendedGcd(%d, %d) = %d, %d, %d, %t, want 0, 0, 0, false", a, b, g, x, y, ok)
		}
	}
	for _, x := range beyond {
		for _, n := range []int{0, 1, -1, 6, -9, limit, -limit, limit + 1, math.MinInt} {
			check(x, n)
			check(n, x)
		}
	}
}

func TestExtendedGcdSteps(t *testing.T) {
	// The combination is the one of the steps that the document describes, not any other one.
	cases := []struct{ a, b, g, x, y int }{
		{0, 0, 0, 1, 0}, {5, 0, 5, 1, 0}, {-5, 0, 5, -1, 0}, {0, 5, 5, 0, 1}, {0, -5, 5, 0, -1},
		{1, 1, 1, 0, 1}, {-1, 1, 1, 0, 1}, {1, -1, 1, 0, -1}, {-1, -1, 1, 0, -1}, {6, 6, 6, 0, 1}, {6, -6, 6, 0, -1},
		{12, 42, 6, -3, 1}, {42, 12, 6, 1, -3}, {-12, 42, 6, 3, 1}, {12, -42, 6, -3, -1}, {-12, -42, 6, 3, -1},
		{3, 2, 1, 1, -1}, {3, -2, 1, 1, 1}, {-3, 2, 1, -1, -1}, {-3, -2, 1, -1, 1},
		{240, 46, 2, -9, 47}, {240, -46, 2, -9, -47}, {-240, 46, 2, 9, 47}, {-240, -46, 2, 9, -47},
		{limit, limit, limit, 0, 1}, {limit, -limit, limit, 0, -1}, {limit, 1, 1, 0, 1}, {1, limit, 1, 1, 0},
		{limit, limit - 1, 1, 1, -1}, {limit - 1, limit, 1, -1, 1}, {-limit, limit - 1, 1, -1, -1}, {-limit, 0, limit, -1, 0},
	}
	for _, c := range cases {
		if g, x, y, ok := impl.ExtendedGcd(c.a, c.b); g != c.g || x != c.x || y != c.y || !ok {
			t.Errorf("ExtendedGcd(%d, %d) = %d, %d, %d, %t, want %d, %d, %d, true", c.a, c.b, g, x, y, ok, c.g, c.x, c.y)
		}
	}
}

func TestDivisorsAreCombinations(t *testing.T) {
	check := func(a, b int) {
		t.Helper()
		g, x, y, ok := impl.ExtendedGcd(a, b)
		if !ok || g != impl.GcdOf(a, b) || a*x+b*y != g {
			t.Errorf("ExtendedGcd(%d, %d) = %d, %d, %d, %t and GcdOf is %d", a, b, g, x, y, ok, impl.GcdOf(a, b))
		}
		if g < 0 || g == 0 && (a != 0 || b != 0) || g != 0 && (a%g != 0 || b%g != 0) {
			t.Errorf("ExtendedGcd(%d, %d): %d is no greatest common divisor", a, b, g)
		}
	}
	for a := -50; a <= 50; a++ {
		for b := -50; b <= 50; b++ {
			check(a, b)
		}
	}
	for _, a := range samples {
		for _, b := range samples {
			check(a, b)
		}
	}
}
