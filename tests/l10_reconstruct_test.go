package tests

import (
	"math"
	"math/big"
	"testing"

	"loop.example/g03411/impl"
)

// greatestBound is the greatest one with twice its square less than some number: for 14143 that is 400048898.
const greatestBound = 14142

// moduli10 holds moduli of all sizes: primes, their powers and products, with and without common divisors with small numbers.
var moduli10 = []int{
	1, 2, 3, 4, 5, 6, 7, 8, 9, 10, 12, 16, 25, 27, 30, 36, 64, 97, 98, 99, 100, 101, 210, 1024, 9973, 10403, 30030, 1113121, 9699690, 121330189,
	1 << 28, 387420489, 390625, 399980000, limit / 2, limit/2 - 1, limit/2 + 1, limit - 2, limit - 1, limit,
}

// noModuli holds numbers that are not from 1 to the limit.
var noModuli = append([]int{0, -1, -2, -3, -10, -97, -101, -limit, limit + 2, 2 * limit, 1<<32 + 101, math.MaxInt - 1}, beyond...)

// imageByWords follows the words of the definition with numbers of any size.
func imageByWords(r impl.Ratio, a, m int) bool {
	if !ratioByWords(r) || a < -limit || a > limit || m < 1 || m > limit || commonDivisor(r.Den, m) != 1 {
		return false
	}
	difference := new(big.Int).Mul(big.NewInt(int64(a)), big.NewInt(int64(r.Den)))
	difference.Sub(difference, big.NewInt(int64(r.Num)))
	return bigResidue(difference, m) == 0
}

func ratioByWords(r impl.Ratio) bool {
	return -limit <= r.Num && r.Num <= limit && 1 <= r.Den && r.Den <= limit && commonDivisor(r.Num, r.Den) == 1
}

func commonDivisor(a, b int) int {
	whole := func(n int) *big.Int { return new(big.Int).Abs(big.NewInt(int64(n))) }
	return int(new(big.Int).GCD(nil, nil, whole(a), whole(b)).Int64())
}

// ratioBySearch tries all denominators up to the bound. Of the numbers with the residue of a product,
// only those nearest to 0 can be numerators, as the modulus is more than twice the bound.
func ratioBySearch(a, m, bound int) (impl.Ratio, bool) {
	found := []impl.Ratio{}
	for den := 1; den <= bound; den++ {
		least := residue(a, m) * den % m
		for _, num := range []int{least, least - m} {
			if -bound <= num && num <= bound && commonDivisor(num, den) == 1 && commonDivisor(den, m) == 1 {
				found = append(found, ratio(num, den))
			}
		}
	}
	if len(found) != 1 {
		return none, false
	}
	return found[0], true
}

// boundOf returns the greatest bound with twice its square less than m; 0 if there is none.
func boundOf(m int) int {
	bound := 0
	for 2*(bound+1)*(bound+1) < m {
		bound++
	}
	return bound
}

func checkImage(t *testing.T, r impl.Ratio, a, m int, want bool) {
	t.Helper()
	if got := impl.IsImage(r, a, m); got != want {
		t.Errorf("IsImage(%v, %d, %d) = %t", r, a, m, got)
	}
}

func checkResidue(t *testing.T, r impl.Ratio, m, want int, fine bool) {
	t.Helper()
	if got, ok := impl.ResidueOf(r, m); got != want || ok != fine {
		t.Errorf("ResidueOf(%v, %d) = %d, %t, want %d, %t", r, m, got, ok, want, fine)
	}
}

func checkFrom(t *testing.T, a, m, bound int, want impl.Ratio) {
	t.Helper()
	if got, ok := impl.RatioFrom(a, m, bound); got != want || !ok {
		t.Errorf("RatioFrom(%d, %d, %d) = %v, %t, want %v, true", a, m, bound, got, ok, want)
	}
}

func checkNoneFrom(t *testing.T, a, m, bound int) {
	t.Helper()
	if got, ok := impl.RatioFrom(a, m, bound); got != none || ok {
		t.Errorf("RatioFrom(%d, %d, %d) = %v, %t, want none, false", a, m, bound, got, ok)
	}
}

// checkSearched compares RatioFrom with a search, and tells whether there is a ratio.
func checkSearched(t *testing.T, a, m, bound int) bool {
	t.Helper()
	want, fine := ratioBySearch(a, m, bound)
	if got, ok := impl.RatioFrom(a, m, bound); got != want || ok != fine {
		t.Errorf("RatioFrom(%d, %d, %d) = %v, %t, want %v, %t", a, m, bound, got, ok, want, fine)
	}
	return fine
}

func TestIsImage(t *testing.T) {
	cases := []struct {
		r    impl.Ratio
		a, m int
		want bool
	}{
		{ratio(1, 2), 51, 101, true}, {ratio(1, 2), 50, 101, false}, {ratio(1, 2), 152, 101, true}, {ratio(1, 2), -50, 101, true}, {ratio(1, 2), -51, 101, false},
		{ratio(-1, 2), 50, 101, true}, {ratio(-1, 2), -51, 101, true}, {ratio(2, 3), 68, 101, true}, {ratio(-2, 3), 33, 101, true}, {ratio(3, 2), 52, 101, true},
		{ratio(5, 1), 5, 7, true}, {ratio(5, 1), -2, 7, true}, {ratio(5, 1), 12, 7, true}, {ratio(5, 1), 2, 7, false}, {ratio(-5, 1), 2, 7, true}, {ratio(7, 1), 0, 7, true},
		{ratio(7, 3), 0, 7, true}, {ratio(0, 1), 0, 7, true}, {ratio(0, 1), 7, 7, true}, {ratio(0, 1), -7, 7, true}, {ratio(0, 1), 1, 7, false},
		// The denominator has a common divisor with the modulus.
		{ratio(1, 2), 1, 10, false}, {ratio(1, 2), 5, 10, false}, {ratio(1, 2), 3, 10, false}, {ratio(1, 5), 1, 10, false}, {ratio(3, 10), 3, 10, false}, {ratio(1, 3), 7, 10, true}, {ratio(1, 7), 1, 7, false},
		// Every number is a multiple of 1.
		{ratio(0, 1), 0, 1, true}, {ratio(1, 2), 0, 1, true}, {ratio(-3, 7), 5, 1, true}, {ratio(limit, limit-1), -limit, 1, true}, {ratio(1, limit), limit, 1, true},
		// All parts are as great as they may be.
		{ratio(1, limit), limit, limit - 1, true}, {ratio(1, limit), -limit, limit - 1, false}, {ratio(-1, limit), -limit, limit - 1, true}, {ratio(1, limit), 1, limit - 1, true},
		{ratio(1, limit-1), -1, limit, true}, {ratio(1, limit-1), limit - 1, limit, true}, {ratio(-1, limit-1), 1, limit, true}, {ratio(-1, limit-1), 1 - limit, limit, true},
		{ratio(limit, 1), 0, limit, true}, {ratio(-limit, 1), 0, limit, true}, {ratio(limit, 1), limit, limit, true}, {ratio(limit, 1), -limit, limit, true}, {ratio(limit, limit-1), 0, limit, true},
		{ratio(limit-1, 1), -1, limit, true}, {ratio(limit-1, 1), 1, limit, false}, {ratio(1, limit), 0, limit, false}, {ratio(1, limit), 1, limit, false},
	}
	for _, c := range cases {
		if imageByWords(c.r, c.a, c.m) != c.want {
			t.Errorf("the definition says that IsImage(%v, %d, %d) is not %t", c.r, c.a, c.m, c.want)
		}
		checkImage(t, c.r, c.a, c.m, c.want)
	}
}

// TestSmallImages goes through small numbers of all kinds, also such that are no ratios or no moduli.
func TestSmallImages(t *testing.T) {
	counts := map[bool]int{}
	for num := -8; num <= 8; num++ {
		for den := -2; den <= 8; den++ {
			for a := -14; a <= 14; a++ {
				for m := -3; m <= 14; m++ {
					want := imageByWords(ratio(num, den), a, m)
					counts[want]++
					checkImage(t, ratio(num, den), a, m, want)
				}
			}
		}
	}
	if counts[true] < 5000 || counts[false] < 50000 {
		t.Errorf("%d are images, and %d are none", counts[true], counts[false])
	}
}

func TestGreatImages(t *testing.T) {
	for _, r := range someRatios() {
		for _, m := range moduli10 {
			for _, a := range samples {
				checkImage(t, r, a, m, imageByWords(r, a, m))
			}
		}
	}
}

func TestIsImageRefuses(t *testing.T) {
	for _, r := range noRatios {
		for _, m := range moduli10 {
			for _, a := range samples {
				checkImage(t, r, a, m, false)
			}
		}
	}
	for _, r := range someRatios() {
		for _, m := range noModuli {
			for _, a := range []int{0, 1, -1, 51, limit, -limit} {
				checkImage(t, r, a, m, false)
			}
		}
		for _, a := range append(beyond, limit+2, -limit-2, math.MaxInt-1, math.MinInt+2) {
			for _, m := range []int{1, 2, 3, 101, limit} {
				checkImage(t, r, a, m, false)
			}
		}
	}
	// Modulo 1 every number is an image, up to the limit and not beyond it.
	for _, a := range []int{limit, -limit} {
		checkImage(t, ratio(1, 2), a, 1, true)
	}
	for _, a := range []int{limit + 1, -limit - 1} {
		checkImage(t, ratio(1, 2), a, 1, false)
	}
	checkImage(t, ratio(0, 1), 0, limit, true)
	checkImage(t, ratio(0, 1), 0, limit+1, false)
}

func TestResidueOf(t *testing.T) {
	cases := []struct {
		r       impl.Ratio
		m, want int
		fine    bool
	}{
		{ratio(1, 2), 101, 51, true}, {ratio(-1, 2), 101, 50, true}, {ratio(2, 3), 101, 68, true}, {ratio(-2, 3), 101, 33, true}, {ratio(1, 2), 10, 0, false}, {ratio(1, 3), 10, 7, true},
		{ratio(5, 1), 7, 5, true}, {ratio(-5, 1), 7, 2, true}, {ratio(12, 1), 7, 5, true}, {ratio(7, 1), 7, 0, true}, {ratio(7, 3), 7, 0, true}, {ratio(-14, 5), 7, 0, true}, {ratio(1, 7), 7, 0, false},
		{ratio(1, 8), 7, 1, true}, {ratio(3, 15), 7, 0, false}, {ratio(1, 1), 2, 1, true}, {ratio(-1, 1), 2, 1, true}, {ratio(1, 2), 2, 0, false}, {ratio(1, 6), 35, 6, true}, {ratio(1, 6), 33, 0, false},
		// Modulo 1 there is only the residue 0.
		{ratio(0, 1), 1, 0, true}, {ratio(1, 2), 1, 0, true}, {ratio(-7, 3), 1, 0, true}, {ratio(1, limit), 1, 0, true}, {ratio(-limit, limit-1), 1, 0, true},
		// The residue of 0.
		{ratio(0, 1), 2, 0, true}, {ratio(0, 1), 101, 0, true}, {ratio(0, 1), limit, 0, true},
		// All parts are as great as they may be.
		{ratio(limit, 1), limit, 0, true}, {ratio(-limit, 1), limit, 0, true}, {ratio(limit, 1), limit - 1, 1, true}, {ratio(-limit, 1), limit - 1, limit - 2, true},
		{ratio(limit-1, 1), limit, limit - 1, true}, {ratio(1-limit, 1), limit, 1, true}, {ratio(1, limit-1), limit, limit - 1, true}, {ratio(-1, limit-1), limit, 1, true},
		{ratio(1, limit), limit - 1, 1, true}, {ratio(-1, limit), limit - 1, limit - 2, true}, {ratio(1, limit), limit, 0, false}, {ratio(limit, limit-1), limit, 0, true}, {ratio(limit-1, limit), limit - 1, 0, true},
	}
	for _, c := range cases {
		checkResidue(t, c.r, c.m, c.want, c.fine)
	}
}

// TestResiduesAreImages relies on the definition: of the numbers from 0 to the modulus less 1, one alone is an image.
func TestResiduesAreImages(t *testing.T) {
	counts := map[bool]int{}
	check := func(r impl.Ratio, m int) {
		t.Helper()
		inverse := new(big.Int).ModInverse(big.NewInt(int64(r.Den)), big.NewInt(int64(m)))
		counts[inverse != nil]++
		if inverse == nil {
			checkResidue(t, r, m, 0, false)
			return
		}
		want := bigResidue(inverse.Mul(inverse, big.NewInt(int64(r.Num))), m)
		checkResidue(t, r, m, want, true)
		checkImage(t, r, want, m, true)
		// The numbers beside it, and from 0 to m - 1 no other one.
		checkImage(t, r, want-m, m, true)
		if m > 1 {
			checkImage(t, r, want-1, m, false)
		}
	}
	for _, r := range someRatios() {
		for _, m := range moduli10 {
			check(r, m)
		}
		for m := 1; m <= 150; m++ {
			check(r, m)
		}
	}
	for num := -20; num <= 20; num++ {
		for den := 1; den <= 20; den++ {
			for m := 1; m <= 40; m++ {
				if commonDivisor(num, den) == 1 {
					check(ratio(num, den), m)
				}
			}
		}
	}
	if counts[true] < 10000 || counts[false] < 5000 {
		t.Errorf("%d residues exist, and %d do not", counts[true], counts[false])
	}
}

func TestResidueOfRefuses(t *testing.T) {
	for _, r := range noRatios {
		for _, m := range append(moduli10, noModuli...) {
			checkResidue(t, r, m, 0, false)
		}
	}
	for _, r := range someRatios() {
		for _, m := range noModuli {
			checkResidue(t, r, m, 0, false)
		}
	}
}

// TestResiduesOfSumsAndProducts takes the residues of results that are ratios.
func TestResiduesOfSumsAndProducts(t *testing.T) {
	for _, m := range []int{1, 7, 97, 101, 1024, 9973, 10403, 121330189, limit - 1, limit} {
		for i, r := range someRatios() {
			for _, s := range someRatios()[i:] {
				a, fineA := impl.ResidueOf(r, m)
				b, fineB := impl.ResidueOf(s, m)
				if !fineA || !fineB {
					continue
				}
				if sum := impl.AddRatios(r, s); sum != none {
					checkResidue(t, sum, m, (a+b)%m, true)
				}
				if product := impl.MultiplyRatios(r, s); product != none {
					checkResidue(t, product, m, a*b%m, true)
				}
			}
		}
	}
}

func TestRatioFrom(t *testing.T) {
	cases := []struct {
		a, m, bound int
		want        impl.Ratio
	}{
		{51, 101, 7, ratio(1, 2)}, {50, 101, 7, ratio(-1, 2)}, {100, 101, 7, ratio(-1, 1)}, {68, 101, 7, ratio(2, 3)}, {33, 101, 7, ratio(-2, 3)}, {1, 101, 7, ratio(1, 1)}, {7, 101, 7, ratio(7, 1)},
		{94, 101, 7, ratio(-7, 1)}, {29, 101, 7, ratio(1, 7)}, {72, 101, 7, ratio(-1, 7)}, {-51, 101, 7, ratio(-1, 2)}, {152, 101, 7, ratio(1, 2)}, {-1, 101, 7, ratio(-1, 1)},
		{51, 101, 2, ratio(1, 2)}, {51, 101, 3, ratio(1, 2)}, {68, 101, 3, ratio(2, 3)}, {7, 100, 7, ratio(7, 1)}, {67, 100, 7, ratio(1, 3)}, {33, 100, 7, ratio(-1, 3)},
		{0, 3, 1, ratio(0, 1)}, {1, 3, 1, ratio(1, 1)}, {2, 3, 1, ratio(-1, 1)}, {limit, 3, 1, ratio(1, 1)}, {-limit, 3, 1, ratio(-1, 1)},
		// The bound and the modulus are as great as they may be.
		{14142, limit, greatestBound, ratio(14142, 1)}, {-14142, limit, greatestBound, ratio(-14142, 1)}, {limit - 14142, limit, greatestBound, ratio(-14142, 1)}, {limit - 1, limit, 1, ratio(-1, 1)},
		{limit, limit, greatestBound, ratio(0, 1)}, {-limit, limit, greatestBound, ratio(0, 1)}, {limit, limit - 1, greatestBound, ratio(1, 1)}, {-limit, limit - 1, greatestBound, ratio(-1, 1)},
		{limit / 2, limit - 1, greatestBound, ratio(1, 2)},
	}
	for _, c := range cases {
		if want, _ := ratioBySearch(c.a, c.m, c.bound); want != c.want {
			t.Errorf("a search from %d, %d, %d finds %v, want %v", c.a, c.m, c.bound, want, c.want)
		}
		checkFrom(t, c.a, c.m, c.bound, c.want)
	}
	nones := []struct{ a, m, bound int }{
		{10, 101, 7}, {51, 98, 7}, {51, 101, 1}, {68, 101, 2}, {67, 101, 2}, {8, 101, 7}, {93, 101, 7}, {15, 101, 6},
		// A denominator would have a common divisor with the modulus, and so would the numerator.
		{7, 12, 2}, {5, 12, 2}, {6, 12, 2}, {50, 100, 7}, {25, 100, 7}, {20, 100, 7}, {51, 100, 7}, {limit / 2, limit, greatestBound}, {limit/2 + 1, limit, greatestBound}, {limit / 4, limit, 1},
		// The bound is too great, by itself or for the modulus.
		{51, 101, 8}, {0, 1, 1}, {0, 2, 1}, {1, 2, 1}, {1, 8, 2}, {1, 18, 3}, {1, limit, greatestBound + 1}, {1, limit, 20000}, {1, limit, 20001},
	}
	for _, c := range nones {
		checkNoneFrom(t, c.a, c.m, c.bound)
	}
}

// TestSmallRatios goes through all fractions up to the bound, and through all moduli and residues up to some size.
func TestSmallRatios(t *testing.T) {
	counts := map[bool]int{}
	for m := -2; m <= 110; m++ {
		for bound := -2; bound <= 9; bound++ {
			images := map[int][]impl.Ratio{}
			for num := -bound; num <= bound; num++ {
				for den := 1; den <= bound; den++ {
					for a := 0; a < m; a++ {
						if imageByWords(ratio(num, den), a, m) {
							images[a] = append(images[a], ratio(num, den))
						}
					}
				}
			}
			for a := -m - 2; a <= 2*m+1; a++ {
				if m < 1 || bound < 1 || 2*bound*bound >= m || len(images[residue(a, m)]) == 0 {
					counts[false]++
					checkNoneFrom(t, a, m, bound)
					continue
				}
				counts[true]++
				found := images[residue(a, m)]
				if len(found) > 1 {
					t.Errorf("%d is the image of %v modulo %d", a, found, m)
				}
				checkFrom(t, a, m, bound, found[0])
			}
		}
	}
	if counts[true] < 20000 || counts[false] < 100000 {
		t.Errorf("%d ratios are found, and %d are not", counts[true], counts[false])
	}
}

// TestRatiosComeBack takes ratios with parts up to the bound, and the moduli for which it is just good enough.
func TestRatiosComeBack(t *testing.T) {
	for bound := 1; bound <= 25; bound++ {
		for m := 2*bound*bound + 1; m <= 2*bound*bound+9; m++ {
			for num := -bound; num <= bound; num++ {
				for den := 1; den <= bound; den++ {
					if commonDivisor(num, den) != 1 || commonDivisor(den, m) != 1 {
						continue
					}
					a, _ := impl.ResidueOf(ratio(num, den), m)
					for _, same := range []int{a, a - m, a + m, a + 1000*m, a - 1000*m} {
						checkFrom(t, same, m, bound, ratio(num, den))
					}
				}
			}
		}
	}
}

func TestGreatRatiosComeBack(t *testing.T) {
	parts := []int{1, 2, 3, 7, 97, 1000, 1024, 4181, 6765, 7071, 9999, 10000, 10007, 14139, 14140, 14141, greatestBound}
	found := 0
	for _, m := range []int{399992329, 399992331, 399992332, 399992333, 399999959, limit - 3, limit - 2, limit - 1, limit} {
		for _, num := range append(parts, 0) {
			for _, den := range parts {
				if commonDivisor(num, den) != 1 || commonDivisor(den, m) != 1 {
					continue
				}
				for _, r := range []impl.Ratio{ratio(num, den), ratio(-num, den)} {
					a, ok := impl.ResidueOf(r, m)
					if !ok {
						t.Errorf("ResidueOf(%v, %d) fails", r, m)
					}
					found++
					checkFrom(t, a, m, greatestBound, r)
					checkFrom(t, a-m, m, greatestBound, r)
					least := max(num, den)
					checkFrom(t, a, m, least, r)
					if least > 1 {
						checkNoneFrom(t, a, m, least-1)
					}
				}
			}
		}
	}
	if found < 2000 {
		t.Errorf("only %d ratios came back", found)
	}
}

// TestRatioFromAgreesWithSearch has residues of any size, most of them of no ratio, as there are fewer ratios than residues.
func TestRatioFromAgreesWithSearch(t *testing.T) {
	counts := map[bool]int{}
	for i, m := range moduli10 {
		bound := boundOf(m)
		if bound == 0 {
			continue
		}
		for _, part := range []int{bound, (bound + 1) / 2, 1} {
			for _, a := range samples {
				counts[checkSearched(t, a, m, min(part, 3000))]++
			}
			for _, a := range mixed(1, 12, m, i).Cells {
				counts[checkSearched(t, a, m, min(part, 3000))]++
			}
		}
	}
	for _, m := range []int{limit - 1, limit} {
		for _, a := range mixed(1, 20, limit, m).Cells {
			counts[checkSearched(t, a, m, greatestBound)]++
		}
	}
	for a := range 1024 {
		counts[checkSearched(t, a, 1024, 22)]++
	}
	for a := range 2310 {
		counts[checkSearched(t, a, 2310, 33)]++
	}
	if counts[true] < 1000 || counts[false] < 1000 {
		t.Errorf("%d ratios are found, and %d are not", counts[true], counts[false])
	}
}

// TestResidueOfZero has 0 itself, the multiples of the modulus, and those of great divisors of it: these are no images.
func TestResidueOfZero(t *testing.T) {
	for _, m := range moduli10 {
		checkResidue(t, ratio(0, 1), m, 0, true)
		checkImage(t, ratio(0, 1), 0, m, true)
		for den := 2; den <= 5; den++ {
			checkResidue(t, ratio(0, den), m, 0, false)
			checkImage(t, ratio(0, den), 0, m, false)
		}
		bound := boundOf(m)
		for _, part := range []int{1, (bound + 1) / 2, bound} {
			for _, a := range []int{0, m, -m, limit / m * m, -(limit / m * m)} {
				checkImage(t, ratio(0, 1), a, m, true)
				if bound == 0 {
					checkNoneFrom(t, a, m, part)
					continue
				}
				checkFrom(t, a, m, part, ratio(0, 1))
			}
		}
		for times := 2; times <= 12; times++ {
			// A divisor of the modulus times a denominator up to the bound is 0, but 0 in lowest terms has the residue 0 alone.
			if m%times == 0 && m/times > bound {
				checkNoneFrom(t, m/times, m, bound)
				checkNoneFrom(t, -m/times, m, bound)
			}
		}
	}
}

func TestRatioFromRefuses(t *testing.T) {
	for _, m := range append(noModuli, 1, 2) {
		for _, bound := range []int{1, 2, 7, 100, greatestBound, 20000} {
			for _, a := range []int{0, 1, -1, 51, limit, -limit} {
				checkNoneFrom(t, a, m, bound)
			}
		}
	}
	for _, a := range append(beyond, limit+2, -limit-2, 1<<32*101, math.MinInt+2) {
		for _, m := range []int{3, 101, limit} {
			checkNoneFrom(t, a, m, 1)
		}
	}
	// Twice the squares of some of these would wrap around to 0, 2 or a negative number.
	bounds := []int{
		0, -1, -2, -7, -greatestBound, -20000, greatestBound + 1, 14143, 15000, 19999, 20000, 20001, limit, 1 << 31, 1<<31 + 1, 1 << 32, 1<<32 + 1, 1 << 33, 3 << 31, 3037000500, 1 << 62, 1<<62 + 1,
		1<<63 - 1, -(1 << 31), -(1 << 32), math.MaxInt, math.MaxInt - 1, math.MinInt, math.MinInt + 1, math.MinInt + 2,
	}
	for _, bound := range bounds {
		for _, m := range []int{1, 2, 3, 101, 387420489, limit - 1, limit} {
			for _, a := range []int{0, 1, -1, 51, limit, -limit} {
				checkNoneFrom(t, a, m, bound)
			}
		}
	}
}

// TestBoundForModulus has twice the square of the bound on both sides of the modulus.
func TestBoundForModulus(t *testing.T) {
	for _, bound := range []int{1, 2, 3, 7, 10, 100, 1000, 9999, 10000, 14141, greatestBound} {
		twice := 2 * bound * bound
		for _, m := range []int{twice - 1, twice} {
			for _, a := range []int{0, 1, -1, bound} {
				checkNoneFrom(t, a, m, bound)
			}
		}
		for _, m := range []int{twice + 1, twice + 2} {
			checkFrom(t, 0, m, bound, ratio(0, 1))
			checkFrom(t, 1, m, bound, ratio(1, 1))
			checkFrom(t, -1, m, bound, ratio(-1, 1))
			checkFrom(t, bound, m, bound, ratio(bound, 1))
			checkFrom(t, -bound, m, bound, ratio(-bound, 1))
		}
	}
	if got := boundOf(limit); got != greatestBound {
		t.Errorf("the greatest bound is %d", got)
	}
}

// TestRatiosFromJoinedResidues takes residues modulo several primes, joins them to one number, and finds the ratio from it.
func TestRatiosFromJoinedResidues(t *testing.T) {
	for _, moduli := range [][]int{{101, 103, 107}, {101, 103, 107, 109}, {9973, 9967}, {7, 11, 13, 17, 19, 23}, {1024, 390625}} {
		product, _ := areModuli(moduli)
		bound := boundOf(product)
		for _, r := range someRatios() {
			residues := []int{}
			for _, modulus := range moduli {
				if a, ok := impl.ResidueOf(r, modulus); ok {
					residues = append(residues, a)
				}
			}
			if len(residues) < len(moduli) {
				checkResidue(t, r, product, 0, false)
				continue
			}
			a, _, _ := impl.ChineseOf(residues, moduli)
			checkResidue(t, r, product, a, true)
			if max(r.Num, -r.Num, r.Den) <= bound {
				checkFrom(t, a, product, bound, r)
			}
		}
	}
}

// TestSolutionsFromResidues solves equations modulo several primes, and finds the quotients of determinants from the solutions.
func TestSolutionsFromResidues(t *testing.T) {
	found := 0
	moduli := []int{101, 103, 107, 109}
	product, _ := areModuli(moduli)
	for seed := range 200 {
		m, b := mixed(3, 3, 9, seed), mixed(1, 3, 9, seed+500).Cells
		determinant := trueDeterminant(m)
		if determinant.Sign() == 0 || commonDivisor(int(determinant.Int64()), product) != 1 {
			continue
		}
		images := [][]int{}
		for _, prime := range moduli {
			x, _ := impl.SolveMod(m, b, prime)
			images = append(images, x)
		}
		for col := range 3 {
			replaced := built(3, 3, func(row, place int) int {
				if place == col {
					return b[row]
				}
				return m.Cells[row*3+place]
			})
			want := inRange(new(big.Rat).SetFrac(trueDeterminant(replaced), determinant))
			residues := []int{}
			for _, x := range images {
				residues = append(residues, x[col])
			}
			a, _, _ := impl.ChineseOf(residues, moduli)
			found++
			checkFrom(t, a, product, boundOf(product), want)
		}
	}
	if found < 400 {
		t.Errorf("only %d quotients were found", found)
	}
}
