package tests

import (
	"math"
	"math/big"
	"testing"

	"loop.example/g03411/impl"
)

func ratio(n, d int) impl.Ratio { return impl.Ratio{Num: n, Den: d} }

var none = impl.Ratio{}

// noRatios holds none, fractions not in lowest terms or with a Den that is not positive, and parts beyond the limit.
var noRatios = []impl.Ratio{
	none, ratio(1, 0), ratio(-1, 0), ratio(limit, 0), ratio(1, -1), ratio(-1, -1), ratio(0, -1), ratio(-1, -2), ratio(1, -limit),
	ratio(0, 2), ratio(0, limit), ratio(2, 4), ratio(-2, 4), ratio(2, 2), ratio(6, 3), ratio(limit, limit), ratio(-limit, 2),
	ratio(limit+1, 1), ratio(-limit-1, 1), ratio(1, limit+1), ratio(-1, limit+1), ratio(limit+1, limit), ratio(limit, limit+1),
	ratio(1, -limit-1), ratio(1<<32, 1), ratio(1<<32+1, 1), ratio(1, 1<<32+1), ratio(1<<32, 1<<32+1),
	ratio(math.MaxInt, 1), ratio(1, math.MaxInt), ratio(math.MinInt, 1), ratio(1, math.MinInt), ratio(-1, math.MinInt),
	ratio(math.MinInt, -1), ratio(math.MinInt, math.MinInt), ratio(math.MinInt, math.MaxInt), ratio(math.MaxInt, math.MinInt),
	ratio(0, math.MinInt), ratio(math.MinInt, 0), ratio(math.MaxInt, 0),
}

// someRatios returns all ratios with small parts, and such whose sums and products are near the limit or beyond it.
func someRatios() []impl.Ratio {
	l := []impl.Ratio{
		ratio(limit, 1), ratio(limit-1, 1), ratio(limit/2, 1), ratio(1, limit), ratio(1, limit-1), ratio(1, limit/2),
		ratio(limit, limit-1), ratio(limit-1, limit), ratio(limit, 3), ratio(3, limit), ratio(limit/2+1, limit), ratio(limit-1, 2),
		ratio(20000, 1), ratio(20001, 1), ratio(1, 20000), ratio(1, 20001), ratio(20000, 20001), ratio(20001, 20000),
		ratio(267914296, 165580141), ratio(46368, 75025), ratio(99991, 1024), ratio(7, 3125), ratio(limit-3, limit-1),
	}
	for _, r := range l {
		l = append(l, ratio(-r.Num, r.Den))
	}
	for n := -6; n <= 6; n++ {
		for d := 1; d <= 5; d++ {
			if impl.GcdOf(n, d) == 1 {
				l = append(l, ratio(n, d))
			}
		}
	}
	return l
}

func exact(r impl.Ratio) *big.Rat { return big.NewRat(int64(r.Num), int64(r.Den)) }

// inRange returns an exact fraction as a ratio; none if a part of its lowest terms is beyond the limit.
func inRange(x *big.Rat) impl.Ratio {
	bound := big.NewInt(limit)
	if x.Num().CmpAbs(bound) > 0 || x.Denom().Cmp(bound) > 0 {
		return none
	}
	return ratio(int(x.Num().Int64()), int(x.Denom().Int64()))
}

func TestIsRatio(t *testing.T) {
	for _, r := range someRatios() {
		if !impl.IsRatio(r) {
			t.Errorf("IsRatio(%v) = false", r)
		}
	}
	for _, r := range noRatios {
		if impl.IsRatio(r) {
			t.Errorf("IsRatio(%v) = true", r)
		}
	}
	for n := -30; n <= 30; n++ {
		for d := -30; d <= 30; d++ {
			if got, want := impl.IsRatio(ratio(n, d)), d > 0 && divisorByTrial(n, d) == 1; got != want {
				t.Errorf("IsRatio(%d / %d) = %t, want %t", n, d, got, want)
			}
		}
	}
}

func TestMakeRatio(t *testing.T) {
	cases := []struct {
		n, d int
		want impl.Ratio
	}{
		{6, -4, ratio(-3, 2)}, {-6, -4, ratio(3, 2)}, {6, 4, ratio(3, 2)}, {-6, 4, ratio(-3, 2)}, {5, 1, ratio(5, 1)}, {5, -1, ratio(-5, 1)},
		{0, 1, ratio(0, 1)}, {0, -1, ratio(0, 1)}, {0, 7, ratio(0, 1)}, {0, -limit, ratio(0, 1)}, {9, 3, ratio(3, 1)}, {3, 9, ratio(1, 3)},
		{limit, limit, ratio(1, 1)}, {-limit, limit, ratio(-1, 1)}, {limit, -limit, ratio(-1, 1)}, {-limit, -limit, ratio(1, 1)},
		{limit, 1, ratio(limit, 1)}, {limit, -1, ratio(-limit, 1)}, {-limit, -1, ratio(limit, 1)}, {1, limit, ratio(1, limit)},
		{1, -limit, ratio(-1, limit)}, {-1, -limit, ratio(1, limit)}, {limit, limit - 1, ratio(limit, limit-1)}, {300000000, -limit, ratio(-3, 4)},
	}
	for _, c := range cases {
		if got := impl.MakeRatio(c.n, c.d); got != c.want {
			t.Errorf("MakeRatio(%d, %d) = %v, want %v", c.n, c.d, got, c.want)
		}
	}
	for _, n := range samples {
		for _, d := range samples {
			if d == 0 {
				continue
			}
			got := impl.MakeRatio(n, d)
			if want := inRange(big.NewRat(int64(n), int64(d))); got != want || !impl.IsRatio(got) {
				t.Errorf("MakeRatio(%d, %d) = %v, want %v", n, d, got, want)
			}
		}
	}
}

func TestMakeRatioRefuses(t *testing.T) {
	check := func(n, d int) {
		t.Helper()
		if got := impl.MakeRatio(n, d); got != none {
			t.Errorf("MakeRatio(%d, %d) = %v, want none", n, d, got)
		}
	}
	for _, n := range samples {
		check(n, 0)
	}
	for _, x := range beyond {
		check(x, 0)
		for _, n := range samples {
			check(x, n)
			check(n, x)
		}
		// The lowest terms of these would be numbers, but the arguments are none.
		for _, y := range beyond {
			check(x, y)
		}
	}
	check(2*limit, 2)
	check(2, 2*limit)
}

func TestSumsAndProducts(t *testing.T) {
	// Beside the ordinary ones: results at the limit, next to it beyond, and within it although the parts on the way are not.
	cases := []struct {
		name string
		do   func(impl.Ratio, impl.Ratio) impl.Ratio
		a, b impl.Ratio
		want impl.Ratio
	}{
		{"AddRatios", impl.AddRatios, ratio(1, 2), ratio(1, 3), ratio(5, 6)},
		{"AddRatios", impl.AddRatios, ratio(1, 6), ratio(1, 3), ratio(1, 2)},
		{"AddRatios", impl.AddRatios, ratio(1, 2), ratio(-1, 2), ratio(0, 1)},
		{"AddRatios", impl.AddRatios, ratio(0, 1), ratio(0, 1), ratio(0, 1)},
		{"AddRatios", impl.AddRatios, ratio(limit-1, 1), ratio(1, 1), ratio(limit, 1)},
		{"AddRatios", impl.AddRatios, ratio(limit, 1), ratio(1, 1), none},
		{"AddRatios", impl.AddRatios, ratio(-limit, 1), ratio(-1, 1), none},
		{"AddRatios", impl.AddRatios, ratio(limit, 1), ratio(limit, 1), none},
		{"AddRatios", impl.AddRatios, ratio(limit, 1), ratio(-limit, 1), ratio(0, 1)},
		{"AddRatios", impl.AddRatios, ratio(1, limit), ratio(1, limit), ratio(1, limit/2)},
		{"AddRatios", impl.AddRatios, ratio(limit-1, limit), ratio(1, limit), ratio(1, 1)},
		{"AddRatios", impl.AddRatios, ratio(1, limit), ratio(1, limit-1), none},
		{"AddRatios", impl.AddRatios, ratio(limit, 1), ratio(1, limit), none},
		{"AddRatios", impl.AddRatios, ratio(limit, limit-1), ratio(limit-1, limit), none},
		{"MultiplyRatios", impl.MultiplyRatios, ratio(2, 3), ratio(3, 4), ratio(1, 2)},
		{"MultiplyRatios", impl.MultiplyRatios, ratio(-2, 3), ratio(-3, 2), ratio(1, 1)},
		{"MultiplyRatios", impl.MultiplyRatios, ratio(-2, 3), ratio(0, 1), ratio(0, 1)},
		{"MultiplyRatios", impl.MultiplyRatios, ratio(20000, 1), ratio(20000, 1), ratio(limit, 1)},
		{"MultiplyRatios", impl.MultiplyRatios, ratio(-20000, 1), ratio(20000, 1), ratio(-limit, 1)},
		{"MultiplyRatios", impl.MultiplyRatios, ratio(20000, 1), ratio(20001, 1), none},
		{"MultiplyRatios", impl.MultiplyRatios, ratio(1, 20000), ratio(1, 20000), ratio(1, limit)},
		{"MultiplyRatios", impl.MultiplyRatios, ratio(1, 20000), ratio(1, 20001), none},
		{"MultiplyRatios", impl.MultiplyRatios, ratio(limit, 1), ratio(limit, 1), none},
		{"MultiplyRatios", impl.MultiplyRatios, ratio(limit, limit-1), ratio(limit-1, limit), ratio(1, 1)},
		{"MultiplyRatios", impl.MultiplyRatios, ratio(limit, 3), ratio(3, limit), ratio(1, 1)},
		{"DivideRatios", impl.DivideRatios, ratio(1, 2), ratio(-1, 4), ratio(-2, 1)},
		{"DivideRatios", impl.DivideRatios, ratio(-1, 2), ratio(-3, 4), ratio(2, 3)},
		{"DivideRatios", impl.DivideRatios, ratio(0, 1), ratio(-3, 4), ratio(0, 1)},
		{"DivideRatios", impl.DivideRatios, ratio(1, 2), ratio(0, 1), none},
		{"DivideRatios", impl.DivideRatios, ratio(0, 1), ratio(0, 1), none},
		{"DivideRatios", impl.DivideRatios, ratio(limit, 1), ratio(limit, 1), ratio(1, 1)},
		{"DivideRatios", impl.DivideRatios, ratio(1, 1), ratio(-limit, 1), ratio(-1, limit)},
		{"DivideRatios", impl.DivideRatios, ratio(1, limit), ratio(1, limit), ratio(1, 1)},
		{"DivideRatios", impl.DivideRatios, ratio(1, limit), ratio(2, 1), none},
		{"DivideRatios", impl.DivideRatios, ratio(limit, 1), ratio(1, 2), none},
		{"DivideRatios", impl.DivideRatios, ratio(limit, 1), ratio(-1, limit), none},
	}
	for _, c := range cases {
		if got := c.do(c.a, c.b); got != c.want {
			t.Errorf("%s(%v, %v) = %v, want %v", c.name, c.a, c.b, got, c.want)
		}
	}
}

func TestRatiosAreExact(t *testing.T) {
	check := func(name string, a, b, got impl.Ratio, x *big.Rat) {
		t.Helper()
		if want := inRange(x); got != want {
			t.Errorf("%s(%v, %v) = %v, want %v", name, a, b, got, want)
		}
	}
	for _, a := range someRatios() {
		for _, b := range someRatios() {
			check("AddRatios", a, b, impl.AddRatios(a, b), new(big.Rat).Add(exact(a), exact(b)))
			check("MultiplyRatios", a, b, impl.MultiplyRatios(a, b), new(big.Rat).Mul(exact(a), exact(b)))
			if b.Num != 0 {
				check("DivideRatios", a, b, impl.DivideRatios(a, b), new(big.Rat).Quo(exact(a), exact(b)))
			}
			if got, want := impl.CompareRatios(a, b), exact(a).Cmp(exact(b)); got != want {
				t.Errorf("CompareRatios(%v, %v) = %d, want %d", a, b, got, want)
			}
		}
	}
}

func TestNegateRatio(t *testing.T) {
	for _, a := range someRatios() {
		if got, want := impl.NegateRatio(a), ratio(-a.Num, a.Den); got != want {
			t.Errorf("NegateRatio(%v) = %v, want %v", a, got, want)
		}
		if got := impl.AddRatios(a, impl.NegateRatio(a)); got != ratio(0, 1) {
			t.Errorf("%v and its opposite are %v together", a, got)
		}
		if got := impl.NegateRatio(impl.NegateRatio(a)); got != a {
			t.Errorf("%v negated twice is %v", a, got)
		}
	}
}

func TestCompareRatios(t *testing.T) {
	cases := []struct {
		a, b impl.Ratio
		want int
	}{
		{ratio(1, 2), ratio(1, 3), 1}, {ratio(1, 3), ratio(1, 2), -1}, {ratio(1, 2), ratio(1, 2), 0},
		{ratio(-1, 2), ratio(-1, 3), -1}, {ratio(-1, 2), ratio(1, 3), -1}, {ratio(0, 1), ratio(-1, limit), 1},
		{ratio(limit, 1), ratio(1, limit), 1}, {ratio(-limit, 1), ratio(limit, 1), -1}, {ratio(limit, 1), ratio(limit, 1), 0},
		{ratio(limit-1, limit), ratio(limit-2, limit-1), 1}, {ratio(limit, limit-1), ratio(limit-1, limit-2), -1},
	}
	for _, c := range cases {
		if got := impl.CompareRatios(c.a, c.b); got != c.want {
			t.Errorf("CompareRatios(%v, %v) = %d, want %d", c.a, c.b, got, c.want)
		}
	}
}

func TestFloorAndRound(t *testing.T) {
	cases := []struct {
		a            impl.Ratio
		floor, round int
	}{
		{ratio(0, 1), 0, 0}, {ratio(5, 1), 5, 5}, {ratio(-5, 1), -5, -5}, {ratio(1, 3), 0, 0}, {ratio(2, 3), 0, 1},
		{ratio(-1, 3), -1, 0}, {ratio(-2, 3), -1, -1}, {ratio(7, 3), 2, 2}, {ratio(8, 3), 2, 3}, {ratio(-7, 3), -3, -2}, {ratio(-8, 3), -3, -3},
		{ratio(limit, 1), limit, limit}, {ratio(-limit, 1), -limit, -limit}, {ratio(1, limit), 0, 0}, {ratio(-1, limit), -1, 0},
		{ratio(limit-1, limit), 0, 1}, {ratio(1-limit, limit), -1, -1}, {ratio(limit, limit-1), 1, 1}, {ratio(-limit, limit-1), -2, -1},
		{ratio(limit/2-1, limit-1), 0, 0}, {ratio(limit/2, limit-1), 0, 1}, {ratio(-limit/2, limit-1), -1, -1}, {ratio(1-limit/2, limit-1), -1, 0},
	}
	for _, c := range cases {
		if got := impl.FloorRatio(c.a); got != c.floor {
			t.Errorf("FloorRatio(%v) = %d, want %d", c.a, got, c.floor)
		}
		if got := impl.RoundRatio(c.a); got != c.round {
			t.Errorf("RoundRatio(%v) = %d, want %d", c.a, got, c.round)
		}
	}
}

func TestHalvesAreRoundedUp(t *testing.T) {
	check := func(n int) {
		t.Helper()
		if got := impl.RoundRatio(ratio(2*n-1, 2)); got != n {
			t.Errorf("RoundRatio(%d / 2) = %d, want %d", 2*n-1, got, n)
		}
		if got := impl.FloorRatio(ratio(2*n-1, 2)); got != n-1 {
			t.Errorf("FloorRatio(%d / 2) = %d, want %d", 2*n-1, got, n-1)
		}
	}
	for n := -20; n <= 20; n++ {
		check(n)
	}
	check(limit / 2)
	check(1 - limit/2)
}

func TestFloorAndRoundAreNear(t *testing.T) {
	for _, a := range someRatios() {
		floor, round := impl.FloorRatio(a), impl.RoundRatio(a)
		if over := a.Num - floor*a.Den; over < 0 || over >= a.Den {
			t.Errorf("FloorRatio(%v) = %d", a, floor)
		}
		if twice := 2 * (round*a.Den - a.Num); twice <= -a.Den || twice > a.Den {
			t.Errorf("RoundRatio(%v) = %d", a, round)
		}
	}
}

func TestRatiosRefuse(t *testing.T) {
	check := func(name string, a, b, got impl.Ratio) {
		t.Helper()
		if got != none {
			t.Errorf("%s(%v, %v) = %v, want none", name, a, b, got)
		}
	}
	checkBoth := func(a, b impl.Ratio) {
		t.Helper()
		check("AddRatios", a, b, impl.AddRatios(a, b))
		check("MultiplyRatios", a, b, impl.MultiplyRatios(a, b))
		check("DivideRatios", a, b, impl.DivideRatios(a, b))
		if got := impl.CompareRatios(a, b); got != 2 {
			t.Errorf("CompareRatios(%v, %v) = %d, want 2", a, b, got)
		}
	}
	for _, x := range noRatios {
		check("NegateRatio", x, none, impl.NegateRatio(x))
		if floor, round := impl.FloorRatio(x), impl.RoundRatio(x); floor != 0 || round != 0 {
			t.Errorf("FloorRatio(%v) = %d, RoundRatio of it = %d, want 0, 0", x, floor, round)
		}
		for _, r := range someRatios() {
			checkBoth(x, r)
			checkBoth(r, x)
		}
		for _, y := range noRatios {
			checkBoth(x, y)
		}
	}
}

// sameIfRatios reports whether two results are the same, or a result on the way to one of them was out of range.
func sameIfRatios(a, b impl.Ratio) bool { return a == none || b == none || a == b }

func TestLawsOfArithmetic(t *testing.T) {
	add, times, divide := impl.AddRatios, impl.MultiplyRatios, impl.DivideRatios
	check := func(law string, same bool, l ...impl.Ratio) {
		t.Helper()
		if !same {
			t.Errorf("%s: broken for %v", law, l)
		}
	}
	zero, one := ratio(0, 1), ratio(1, 1)
	all := someRatios()
	for _, a := range all {
		check("a + 0 = a", add(a, zero) == a && add(zero, a) == a, a)
		check("a * 1 = a", times(a, one) == a && times(one, a) == a && divide(a, one) == a, a)
		check("a * 0 = 0", times(a, zero) == zero && times(zero, a) == zero, a)
		check("a / a = 1", a == zero || divide(a, a) == one && times(a, divide(one, a)) == one, a)
		check("a * -1 = -a", times(a, ratio(-1, 1)) == impl.NegateRatio(a), a)
		for _, b := range all {
			check("a + b = b + a", add(a, b) == add(b, a), a, b)
			check("a * b = b * a", times(a, b) == times(b, a), a, b)
			check("a / b * b = a", sameIfRatios(times(divide(a, b), b), a), a, b)
			check("a + b - b = a", sameIfRatios(add(add(a, b), impl.NegateRatio(b)), a), a, b)
			check("a < b is b > a", impl.CompareRatios(a, b) == -impl.CompareRatios(b, a), a, b)
			check("a = b is one fraction", (impl.CompareRatios(a, b) == 0) == (a == b), a, b)
			for _, c := range all {
				check("(a + b) + c = a + (b + c)", sameIfRatios(add(add(a, b), c), add(a, add(b, c))), a, b, c)
				check("(a * b) * c = a * (b * c)", sameIfRatios(times(times(a, b), c), times(a, times(b, c))), a, b, c)
				check("a * (b + c) = a * b + a * c", sameIfRatios(times(a, add(b, c)), add(times(a, b), times(a, c))), a, b, c)
			}
		}
	}
}
