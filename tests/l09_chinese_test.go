package tests

import (
	"math"
	"math/big"
	"slices"
	"testing"

	"loop.example/g03411/impl"
)

const (
	maxModuli = 8
	// imageBound is the greatest bound of a determinant for which the product of four primes from 101 on is enough, and that of five is no number.
	imageBound = (101*103*107*109 - 1) / 2
)

// coprimes holds lists of moduli: none, one, as many as there may be, products at the limit, and moduli that are no primes.
func coprimes() [][]int {
	return [][]int{
		nil, {}, {2}, {3}, {4}, {6}, {97}, {limit - 1}, {limit}, {2, 3}, {3, 2}, {4, 9}, {2, 9}, {8, 27}, {7, 6}, {6, 35}, {35, 6}, {3, 5, 7}, {7, 5, 3}, {8, 9, 25},
		{4, 3, 25, 7}, {101, 103, 107, 109}, {2, limit/2 - 1}, {limit/2 - 1, 2}, {19999, 20000}, {20000, 19999}, {1024, 390625}, {390625, 1024}, {2, 3, 66666665},
		{2, 3, 5, 7, 11, 13, 17, 19}, {19, 17, 13, 11, 7, 5, 3, 2}, {2, 3, 5, 7, 11, 13, 17, 779}, {4, 9, 5, 7, 11, 13, 17, 19}, {2, 3, 5, 7, 11, 13, 17, 23}, {3, 16, 5, 7, 11, 13, 17, 19},
	}
}

// noCoprimes holds lists that are no moduli: numbers less than 2, common divisors, products beyond the limit, also such
// that would wrap around to a number, and one modulus more than there may be.
func noCoprimes() [][]int {
	l := [][]int{
		{0}, {1}, {-1}, {-2}, {-7}, {1, 1}, {1, 2}, {2, 1}, {3, 5, 1}, {0, 1}, {3, 0}, {0, 3}, {-2, -3}, {-2, 3}, {3, -2}, {3, 5, -7}, {-3, -5, -7}, {2, 3, 0}, {0, 0, 0, 0, 0, 0, 0, 0},
		{2, 2}, {4, 6}, {6, 4}, {2, 4}, {9, 3}, {3, 5, 3}, {6, 10, 15}, {15, 10, 6}, {2, 3, 4}, {5, 6, 7, 9}, {20000, 20000}, {limit / 2, 2}, {3, 5, 7, 11, 13, 15}, {101, 103, 101},
		{30000, 30001}, {20000, 20001}, {limit, 3}, {3, limit}, {2, limit - 1}, {limit - 1, 2, 3}, {2, 3, 66666667}, {2, 3, 5, 7, 11, 13, 17, 787}, {101, 103, 107, 109, 113},
		{2, 3, 5, 7, 11, 13, 17, 19, 23}, {23, 19, 17, 13, 11, 7, 5, 3, 2}, {641, 6700417}, {65536, 65537}, {1 << 32, 1<<32 + 1}, {math.MaxInt, 2}, {2, math.MaxInt},
		{3, (1<<64 + 5) / 3}, {math.MaxInt, math.MaxInt}, {math.MaxInt, math.MaxInt, 3, 5}, {math.MinInt, 3}, {3, math.MinInt}, {math.MinInt, math.MinInt}, {3, 5, math.MaxInt - 1},
		{274177, 67280421310721}, {67280421310721, 274177}, {limit - 1, limit, limit + 1, limit - 3},
		slices.Repeat([]int{1}, 9), slices.Repeat([]int{0}, 9), slices.Repeat([]int{2}, 64), {1, 2, 3, 5, 7, 11, 13, 17, 19}, make([]int, 1000),
	}
	for _, n := range beyond {
		l = append(l, []int{n}, []int{n, 3}, []int{3, n}, []int{2, 3, n}, []int{n, n})
	}
	return l
}

// areModuli tells from the definition whether a list holds moduli, and what their product is.
func areModuli(l []int) (int, bool) {
	product := big.NewInt(1)
	for i, modulus := range l {
		product.Mul(product, big.NewInt(int64(modulus)))
		if modulus < 2 {
			return 0, false
		}
		for _, other := range l[i+1:] {
			divisor := new(big.Int).GCD(nil, nil, big.NewInt(int64(modulus)), new(big.Int).Abs(big.NewInt(int64(other))))
			if divisor.Cmp(big.NewInt(1)) != 0 {
				return 0, false
			}
		}
	}
	n, ok := numberOf(product)
	return n, ok && len(l) <= maxModuli
}

// residuesOf returns what is left of a number after divisions by moduli.
func residuesOf(x int, moduli []int) []int {
	l := []int{}
	for _, modulus := range moduli {
		l = append(l, residue(x, modulus))
	}
	return l
}

func checkChinese(t *testing.T, residues, moduli []int, x, product int) {
	t.Helper()
	if gotX, gotProduct, ok := impl.ChineseOf(residues, moduli); gotX != x || gotProduct != product || !ok {
		t.Errorf("ChineseOf(%v, %v) = %d, %d, %t, want %d, %d, true", residues, moduli, gotX, gotProduct, ok, x, product)
	}
}

// checkJoined expects a number with these residues: there is one only from 0 to the product less 1.
func checkJoined(t *testing.T, residues, moduli []int) {
	t.Helper()
	want, _ := areModuli(moduli)
	x, product, ok := impl.ChineseOf(residues, moduli)
	if !ok || product != want || x < 0 || x >= product {
		t.Errorf("ChineseOf(%v, %v) = %d, %d, %t, want a number from 0 to %d, %d, true", residues, moduli, x, product, ok, want-1, want)
		return
	}
	for i, modulus := range moduli {
		if (x-residues[i])%modulus != 0 {
			t.Errorf("ChineseOf(%v, %v) = %d, which has another residue modulo %d", residues, moduli, x, modulus)
		}
	}
}

func checkNoChinese(t *testing.T, residues, moduli []int) {
	t.Helper()
	if x, product, ok := impl.ChineseOf(residues, moduli); x != 0 || product != 0 || ok {
		t.Errorf("ChineseOf(%v, %v) = %d, %d, %t, want 0, 0, false", residues, moduli, x, product, ok)
	}
}

func checkSymmetric(t *testing.T, x, m, want int, fine bool) {
	t.Helper()
	if got, ok := impl.SymmetricOf(x, m); got != want || ok != fine {
		t.Errorf("SymmetricOf(%d, %d) = %d, %t, want %d, %t", x, m, got, ok, want, fine)
	}
}

func checkRowBound(t *testing.T, m impl.Matrix, want int, fine bool) {
	t.Helper()
	got, ok := impl.RowBound(m)
	checkNumber(t, "RowBound", m, got, ok, want, fine)
}

func checkByImages(t *testing.T, m impl.Matrix, want int, fine bool) {
	t.Helper()
	got, ok := impl.DeterminantByImages(m)
	checkNumber(t, "DeterminantByImages", m, got, ok, want, fine)
}

func TestAreModuli(t *testing.T) {
	if impl.MaxModuli != maxModuli {
		t.Errorf("MaxModuli is %d, want %d", impl.MaxModuli, maxModuli)
	}
	for _, l := range coprimes() {
		if _, ok := areModuli(l); !ok || !impl.AreModuli(l) {
			t.Errorf("AreModuli(%v) = false", l)
		}
	}
	for _, l := range noCoprimes() {
		if _, ok := areModuli(l); ok || impl.AreModuli(l) {
			t.Errorf("AreModuli(%v) = true", l)
		}
	}
}

// TestAreModuliShortLists goes through all lists of up to three of some numbers.
func TestAreModuliShortLists(t *testing.T) {
	numbers := []int{
		-6, -3, -1, 0, 1, 2, 3, 4, 5, 6, 8, 9, 10, 15, 25, 49, 77, 101, 20000, 19999, 20001, 66666665, 66666667, 133333333, limit / 2, limit/2 - 1, limit - 1, limit, limit + 1,
		1 << 32, math.MaxInt, math.MinInt,
	}
	counts := map[bool]int{}
	check := func(l ...int) {
		t.Helper()
		_, want := areModuli(l)
		counts[want]++
		if got := impl.AreModuli(l); got != want {
			t.Errorf("AreModuli(%v) = %t", l, got)
		}
	}
	for _, a := range numbers {
		check(a)
		for _, b := range numbers {
			check(a, b)
			for _, c := range numbers {
				check(a, b, c)
			}
		}
	}
	for modulus := -100; modulus <= 100; modulus++ {
		check(modulus)
		for other := -100; other <= 100; other++ {
			check(modulus, other)
		}
	}
	if counts[true] < 3000 || counts[false] < 20000 {
		t.Errorf("%d lists are moduli, and %d are none", counts[true], counts[false])
	}
}

// TestCountOfModuli has products within the limit on both sides of the greatest count.
func TestCountOfModuli(t *testing.T) {
	moduli := []int{}
	for _, prime := range []int{2, 3, 5, 7, 11, 13, 17, 19} {
		moduli = append(moduli, prime)
		if !impl.AreModuli(moduli) {
			t.Errorf("AreModuli(%v) = false", moduli)
		}
		checkJoined(t, make([]int, len(moduli)), moduli)
		checkJoined(t, slices.Repeat([]int{-1}, len(moduli)), moduli)
	}
	checkChinese(t, slices.Repeat([]int{-1}, 8), moduli, 9699689, 9699690)
	moduli = append(moduli, 23)
	if impl.AreModuli(moduli) {
		t.Errorf("AreModuli(%v) = true", moduli)
	}
	checkNoChinese(t, make([]int, len(moduli)), moduli)
}

func TestChineseOf(t *testing.T) {
	cases := []struct {
		residues, moduli []int
		x, product       int
	}{
		{[]int{2, 3, 2}, []int{3, 5, 7}, 23, 105},
		{[]int{2, 2, 3}, []int{7, 3, 5}, 23, 105},
		{[]int{-1, -2, -5}, []int{3, 5, 7}, 23, 105},
		{[]int{0, 0, 0}, []int{3, 5, 7}, 0, 105},
		{[]int{2, 4, 6}, []int{3, 5, 7}, 104, 105},
		{[]int{3, 5, 7}, []int{3, 5, 7}, 0, 105},
		{[]int{105, -105, 210}, []int{3, 5, 7}, 0, 105},
		{[]int{1, 0, 0}, []int{3, 5, 7}, 70, 105},
		{[]int{0, 1, 0}, []int{3, 5, 7}, 21, 105},
		{[]int{0, 0, 1}, []int{3, 5, 7}, 15, 105},
		{[]int{3, 4}, []int{4, 9}, 31, 36},
		{[]int{1, 34}, []int{6, 35}, 139, 210},
		{[]int{5}, []int{7}, 5, 7},
		{[]int{12}, []int{7}, 5, 7},
		{[]int{-2}, []int{7}, 5, 7},
		{[]int{7}, []int{7}, 0, 7},
		{[]int{-7}, []int{7}, 0, 7},
		{[]int{limit}, []int{limit}, 0, limit},
		{[]int{-limit}, []int{limit}, 0, limit},
		{[]int{-1}, []int{limit}, limit - 1, limit},
		{[]int{limit - 1}, []int{limit}, limit - 1, limit},
		{[]int{limit}, []int{limit - 1}, 1, limit - 1},
		{[]int{-limit}, []int{limit - 1}, limit - 2, limit - 1},
		{[]int{limit}, []int{2}, 0, 2},
		{[]int{-limit}, []int{3}, 2, 3},
		{[]int{1023, 390624}, []int{1024, 390625}, limit - 1, limit},
		{[]int{-1, -1}, []int{390625, 1024}, limit - 1, limit},
		{[]int{limit, -limit}, []int{1024, 390625}, 0, limit},
		{[]int{0, 1}, []int{19999, 20000}, 399960001, 399980000},
		{[]int{1, 0}, []int{19999, 20000}, 20000, 399980000},
		{[]int{limit, -limit}, []int{2, 3}, 2, 6},
	}
	for _, c := range cases {
		checkChinese(t, c.residues, c.moduli, c.x, c.product)
	}
}

func TestChineseOfNoModuli(t *testing.T) {
	for _, none := range [][]int{nil, {}, make([]int, 0, 5)} {
		if !impl.AreModuli(none) {
			t.Errorf("AreModuli(%v) = false", none)
		}
		for _, empty := range [][]int{nil, {}, make([]int, 0, 5)} {
			checkChinese(t, empty, none, 0, 1)
		}
		for _, l := range [][]int{{0}, {1}, {0, 0}, {limit + 1}, {math.MinInt}} {
			checkNoChinese(t, l, none)
		}
		for _, l := range [][]int{{1}, {2}, {0}, {3, 5}, {-1}} {
			checkNoChinese(t, none, l)
		}
	}
}

// TestResiduesAreJoined goes through numbers up to each product, all of them if it is small: they come back from their residues.
func TestResiduesAreJoined(t *testing.T) {
	for _, moduli := range coprimes() {
		product, _ := areModuli(moduli)
		step := max(1, product/2003)
		for x := 0; x < product; x += step {
			checkChinese(t, residuesOf(x, moduli), moduli, x, product)
		}
		checkChinese(t, residuesOf(product-1, moduli), moduli, product-1, product)
		for _, x := range samples {
			checkChinese(t, residuesOf(x, moduli), moduli, residue(x, product), product)
			checkChinese(t, slices.Repeat([]int{x}, len(moduli)), moduli, residue(x, product), product)
		}
	}
}

func TestAllResiduesAreJoined(t *testing.T) {
	for _, moduli := range [][]int{{2}, {5}, {12}, {2, 3}, {3, 2}, {4, 9}, {9, 4}, {6, 5, 7}, {2, 3, 5}, {5, 3, 2}, {8, 3, 5}, {2, 3, 5, 7}} {
		product, _ := areModuli(moduli)
		found := map[int]int{}
		for word := range product {
			residues := []int{}
			for _, modulus := range moduli {
				residues = append(residues, word%modulus)
				word /= modulus
			}
			checkJoined(t, residues, moduli)
			x, _, _ := impl.ChineseOf(residues, moduli)
			found[x]++
		}
		if len(found) != product {
			t.Errorf("the residues modulo %v are joined to %d numbers, want %d", moduli, len(found), product)
		}
	}
}

// TestAnyResiduesAreJoined takes residues of any size and sign.
func TestAnyResiduesAreJoined(t *testing.T) {
	for i, moduli := range coprimes() {
		for seed := range 40 {
			for _, bound := range []int{3, 1000, limit} {
				checkJoined(t, mixed(1, len(moduli), bound, seed+100*i).Cells, moduli)
			}
		}
		for _, x := range samples {
			for place := range moduli {
				residues := make([]int, len(moduli))
				residues[place] = x
				checkJoined(t, residues, moduli)
			}
		}
	}
	// All pairs of small moduli, with the residues that differ most.
	for a := 2; a <= 60; a++ {
		for b := 2; b <= 60; b++ {
			pair := []int{a, b}
			if _, ok := areModuli(pair); !ok {
				checkNoChinese(t, []int{1, 1}, pair)
				continue
			}
			for _, residues := range [][]int{{0, b - 1}, {a - 1, 0}, {a - 1, b - 1}, {1, 0}, {0, 1}, {limit, -limit}, {-limit, limit}, {-1, 1}} {
				checkJoined(t, residues, pair)
			}
		}
	}
}

func TestOrderOfModuliDoesNotMatter(t *testing.T) {
	for i, moduli := range coprimes() {
		residues := mixed(1, len(moduli), limit, i).Cells
		x, product, _ := impl.ChineseOf(residues, moduli)
		for shift := range len(moduli) {
			turned := append(slices.Clone(moduli[shift:]), moduli[:shift]...)
			checkChinese(t, append(slices.Clone(residues[shift:]), residues[:shift]...), turned, x, product)
		}
	}
}

// TestJoinedInSteps joins the first residues to one, and this one with the others.
func TestJoinedInSteps(t *testing.T) {
	for i, moduli := range coprimes() {
		residues := mixed(1, len(moduli), limit, i+70).Cells
		x, product, _ := impl.ChineseOf(residues, moduli)
		for count := 1; count <= len(moduli); count++ {
			first, firstProduct, ok := impl.ChineseOf(residues[:count], moduli[:count])
			if !ok {
				t.Errorf("ChineseOf(%v, %v) fails", residues[:count], moduli[:count])
				continue
			}
			checkChinese(t, append([]int{first}, residues[count:]...), append([]int{firstProduct}, moduli[count:]...), x, product)
		}
	}
}

func TestJoinedSumsAndProducts(t *testing.T) {
	for i, moduli := range coprimes() {
		for seed := range 10 {
			a, b := mixed(1, len(moduli), 20000, seed+50*i).Cells, mixed(1, len(moduli), 20000, seed+50*i+25).Cells
			x, product, _ := impl.ChineseOf(a, moduli)
			y, _, _ := impl.ChineseOf(b, moduli)
			sums, products := []int{}, []int{}
			for k := range moduli {
				sums, products = append(sums, a[k]+b[k]), append(products, a[k]*b[k])
			}
			checkChinese(t, sums, moduli, residue(x+y, product), product)
			checkChinese(t, products, moduli, residue(x*y, product), product)
		}
	}
}

func TestChineseOfRefuses(t *testing.T) {
	for _, moduli := range noCoprimes() {
		checkNoChinese(t, make([]int, len(moduli)), moduli)
		checkNoChinese(t, slices.Repeat([]int{1}, len(moduli)), moduli)
		checkNoChinese(t, nil, moduli)
	}
	for _, moduli := range coprimes() {
		residues := mixed(1, len(moduli), limit, len(moduli)).Cells
		checkNoChinese(t, append(slices.Clone(residues), 0), moduli)
		checkNoChinese(t, append([]int{0}, residues...), moduli)
		checkNoChinese(t, make([]int, len(moduli)+maxModuli), moduli)
		for place := range moduli {
			checkNoChinese(t, residues[:place], moduli)
			for _, n := range append(beyond, limit+2, -limit-2, limit+moduli[place], -limit-moduli[place], math.MinInt+2) {
				wrong := slices.Clone(residues)
				wrong[place] = n
				checkNoChinese(t, wrong, moduli)
			}
			for _, n := range []int{limit, -limit} {
				right := slices.Clone(residues)
				right[place] = n
				checkJoined(t, right, moduli)
			}
		}
	}
}

func TestSymmetricOf(t *testing.T) {
	cases := []struct{ x, m, want int }{
		{8, 16, 8}, {-8, 16, 8}, {9, 16, -7}, {-9, 16, 7}, {7, 16, 7}, {-7, 16, -7}, {24, 16, 8}, {-24, 16, 8}, {16, 16, 0}, {-16, 16, 0}, {15, 16, -1}, {17, 16, 1},
		{0, 1, 0}, {1, 1, 0}, {-5, 1, 0}, {limit, 1, 0}, {-limit, 1, 0}, {0, 2, 0}, {1, 2, 1}, {-1, 2, 1}, {2, 2, 0}, {3, 2, 1}, {1, 3, 1}, {2, 3, -1}, {-1, 3, -1}, {-2, 3, 1},
		{3, 7, 3}, {4, 7, -3}, {-3, 7, -3}, {-4, 7, 3}, {limit, limit, 0}, {-limit, limit, 0}, {limit / 2, limit, limit / 2}, {-limit / 2, limit, limit / 2},
		{limit/2 + 1, limit, 1 - limit/2}, {limit/2 - 1, limit, limit/2 - 1}, {1 - limit/2, limit, 1 - limit/2}, {-1 - limit/2, limit, limit/2 - 1},
		{limit - 1, limit, -1}, {limit, limit - 1, 1}, {-limit, limit - 1, -1}, {limit / 2, limit - 1, 1 - limit/2}, {limit/2 - 1, limit - 1, limit/2 - 1}, {105, 210, 105}, {104, 105, -1},
	}
	for _, c := range cases {
		checkSymmetric(t, c.x, c.m, c.want, true)
	}
}

// TestSymmetricNumbers relies on the definition: of the numbers r with 2*r up to m and greater than -m one alone differs from x by a multiple.
func TestSymmetricNumbers(t *testing.T) {
	check := func(x, m int) {
		t.Helper()
		r, ok := impl.SymmetricOf(x, m)
		if !ok || (x-r)%m != 0 || 2*r > m || 2*r <= -m {
			t.Errorf("SymmetricOf(%d, %d) = %d, %t", x, m, r, ok)
		}
		checkSymmetric(t, r, m, r, true)
	}
	for m := 1; m <= 70; m++ {
		for x := -3*m - 3; x <= 3*m+3; x++ {
			check(x, m)
		}
		for _, x := range samples {
			check(x, m)
		}
	}
	for _, m := range samples {
		if m < 1 {
			continue
		}
		for _, x := range append([]int{m / 2, -m / 2, m/2 + 1, -m/2 - 1, (m - 1) / 2, -(m - 1) / 2, m - 1, 1 - m}, samples...) {
			check(x, m)
		}
	}
}

func TestSymmetricOfRefuses(t *testing.T) {
	for _, m := range append(beyond, 0, -1, -2, -7, -16, -limit, limit+2) {
		for _, x := range append(samples, beyond...) {
			checkSymmetric(t, x, m, 0, false)
		}
	}
	for _, x := range append(beyond, limit+2, -limit-2, 2*limit, 1<<33) {
		for _, m := range []int{1, 2, 3, 16, 101, limit - 1, limit} {
			checkSymmetric(t, x, m, 0, false)
		}
	}
}

func TestSymmetricNumbersComeBack(t *testing.T) {
	for _, moduli := range coprimes() {
		product, _ := areModuli(moduli)
		for k := range 400 {
			// The numbers are spread from the least one to the greatest one.
			x := (1-product)/2 + (product-1)*k/399
			joined, got, _ := impl.ChineseOf(residuesOf(x, moduli), moduli)
			checkSymmetric(t, joined, got, x, true)
		}
	}
}

// rowBound returns what RowBound is to return for a square matrix, and holds each step to the limit.
func rowBound(m impl.Matrix) (int, bool) {
	sums := []*big.Int{}
	for row := range m.Rows {
		sum := new(big.Int)
		for col := range m.Cols {
			sum.Add(sum, new(big.Int).Abs(big.NewInt(int64(m.Cells[row*m.Cols+col]))))
		}
		if _, ok := numberOf(sum); !ok {
			return 0, false
		}
		sums = append(sums, sum)
	}
	for count := range len(sums) + 1 {
		product := big.NewInt(1)
		for _, sum := range sums[:count] {
			product.Mul(product, sum)
		}
		if n, ok := numberOf(product); !ok || count == len(sums) {
			return n, ok
		}
	}
	return 0, false
}

func TestRowBound(t *testing.T) {
	cases := []struct {
		m    impl.Matrix
		want int
		fine bool
	}{
		{matrix(2, 2, 1, -2, 3, 4), 21, true},
		{matrix(0, 0), 1, true},
		{matrix(1, 1, 0), 0, true},
		{matrix(1, 1, 5), 5, true},
		{matrix(1, 1, -5), 5, true},
		{matrix(1, 1, limit), limit, true},
		{matrix(1, 1, -limit), limit, true},
		{matrix(2, 2, 1, 0, 0, 1), 1, true},
		{matrix(3, 3, 1, 2, 3, 4, 5, 6, 7, 8, 9), 6 * 15 * 24, true},
		{matrix(3, 3, -1, 2, -3, 4, -5, 6, -7, 8, -9), 6 * 15 * 24, true},
		{matrix(2, 2, 1, 1, 0, 0), 0, true},
		{matrix(2, 2, 0, 0, 1, 1), 0, true},
		// A sum at the limit and beyond it.
		{matrix(2, 2, limit, 0, 0, 1), limit, true},
		{matrix(2, 2, limit-1, 1, 0, 1), limit, true},
		{matrix(2, 2, limit-1, -1, 0, -1), limit, true},
		{matrix(2, 2, limit, 1, 0, 1), 0, false},
		{matrix(2, 2, -limit, 1, 0, 1), 0, false},
		{matrix(2, 2, 1, 0, limit, 1), 0, false},
		{matrix(2, 2, limit, -limit, 0, 0), 0, false},
		// So is a sum behind or before a sum of zeros.
		{matrix(2, 2, 0, 0, limit, 1), 0, false},
		{matrix(2, 2, 0, 0, limit, -limit), 0, false},
		{matrix(2, 2, limit, limit, 0, 0), 0, false},
		{matrix(2, 2, 0, 0, limit, 0), 0, true},
		{matrix(3, 3, 0, 0, 0, 0, limit, 0, 0, limit-1, 1), 0, true},
		{matrix(3, 3, 0, 0, 0, 0, limit, 0, 0, limit-1, 2), 0, false},
		// A product at the limit and beyond it.
		{matrix(2, 2, 20000, 0, 0, 20000), limit, true},
		{matrix(2, 2, 10000, -10000, 19999, 1), limit, true},
		{matrix(2, 2, 20000, 0, 0, 20001), 0, false},
		{matrix(2, 2, limit, 0, 0, 2), 0, false},
		{matrix(2, 2, 2, 0, 0, limit), 0, false},
		{matrix(3, 3, 20000, 0, 0, 0, 20000, 0, 0, 0, 1), limit, true},
		// A product beyond the limit stays beyond it in front of a sum of zeros, but none is made behind it.
		{matrix(3, 3, 20000, 0, 0, 0, 20001, 0, 0, 0, 0), 0, false},
		{matrix(3, 3, 20000, 0, 0, 0, 0, 0, 0, 20001, 0), 0, true},
		{matrix(3, 3, 0, 0, 0, 20000, 0, 0, 0, 20001, 0), 0, true},
		{matrix(3, 3, 20000, 0, 0, 0, 20000, 0, 0, 0, 0), 0, true},
		// The determinants of these are within the limit.
		{matrix(2, 2, 20000, 20000, 20000, 20000), 0, false},
		{matrix(2, 2, 1, limit, 0, 1), 0, false},
		// It is the rows that count, not the columns.
		{matrix(2, 2, 1, limit-1, 0, 1), limit, true},
		{matrix(2, 2, 1, 0, limit-1, 1), limit, true},
		{matrix(2, 2, 3, 0, 4, 0), 12, true},
		{matrix(2, 2, 3, 4, 0, 0), 0, true},
	}
	for _, c := range cases {
		if want, fine := rowBound(c.m); want != c.want || fine != c.fine {
			t.Errorf("the bound of %v is %d, %t, want %d, %t", c.m, want, fine, c.want, c.fine)
		}
		checkRowBound(t, c.m, c.want, c.fine)
	}
	counts := map[bool]int{}
	for _, m := range append(squares(), units()...) {
		want, fine := rowBound(m)
		counts[fine]++
		checkRowBound(t, m, want, fine)
		if determinant := trueDeterminant(m); fine && determinant.CmpAbs(big.NewInt(int64(want))) > 0 {
			t.Errorf("the determinant of %v is %s, but RowBound is %d", m, determinant, want)
		}
	}
	if counts[true] < 1000 || counts[false] < 500 {
		t.Errorf("%d matrices have a bound, and %d have none", counts[true], counts[false])
	}
}

// TestRowBoundDoesNotWrapAround has the greatest cells of all.
func TestRowBoundDoesNotWrapAround(t *testing.T) {
	for n := range maxMinor + 1 {
		checkRowBound(t, matrix(n, n, slices.Repeat([]int{-limit}, n*n)...), []int{1, limit, 0, 0, 0, 0, 0}[n], n < 2)
		for _, cell := range []int{1 << 16, 1 << 22, 1 << 28, limit} {
			diagonal := built(n, n, func(row, col int) int { return max(1-max(row-col, col-row), 0) * cell })
			want, fine := rowBound(diagonal)
			checkRowBound(t, diagonal, want, fine)
			if n >= 3 && fine {
				t.Errorf("the bound of %v is %d", diagonal, want)
			}
		}
	}
}

func TestDeterminantByImages(t *testing.T) {
	cases := []struct {
		m    impl.Matrix
		want int
		fine bool
	}{
		{matrix(2, 2, 1, -2, 3, 4), 10, true},
		{matrix(2, 2, 3, 4, 1, -2), -10, true},
		{matrix(0, 0), 1, true},
		{matrix(1, 1, 0), 0, true},
		{matrix(1, 1, 1), 1, true},
		{matrix(1, 1, -1), -1, true},
		{matrix(2, 2, 0, 1, 1, 0), -1, true},
		{matrix(3, 3, 0, 1, 0, 0, 0, 1, 1, 0, 0), 1, true},
		{matrix(3, 3, 1, 2, 3, 4, 5, 6, 7, 8, 9), 0, true},
		{matrix(3, 3, 1, 2, 3, 4, 5, 6, 7, 8, 10), -3, true},
		{matrix(2, 2, 7000, 1, 1, 7000), 48999999, true},
		{matrix(2, 2, 1, 7000, 7000, 1), -48999999, true},
		// The primes divide it.
		{matrix(1, 1, 101), 101, true},
		{matrix(1, 1, -101), -101, true},
		{matrix(2, 2, 101, 0, 0, -103), -10403, true},
		{matrix(3, 3, 101, 0, 0, 0, 103, 0, 0, 0, 107), 1113121, true},
		{matrix(2, 2, 0, 10403, -107, 0), 1113121, true},
		{matrix(2, 2, 50, 51, 51, 50), -101, true},
		// The bound fails.
		{matrix(2, 2, 20000, 20000, 20000, 20000), 0, false},
		{matrix(2, 2, 1, limit, 0, 1), 0, false},
		{matrix(2, 2, 0, 0, limit, 1), 0, false},
		{matrix(3, 3, 20000, 0, 0, 0, 20001, 0, 0, 0, 0), 0, false},
		// The bound is 0, and no prime is needed.
		{matrix(2, 2, 0, 0, limit, 0), 0, true},
		{matrix(2, 2, limit, 0, 0, 0), 0, true},
		{matrix(3, 3, 20000, 0, 0, 0, 20000, 0, 0, 0, 0), 0, true},
		// The bound is within the limit, but the product of the primes is not.
		{matrix(1, 1, limit), 0, false},
		{matrix(1, 1, -limit), 0, false},
		{matrix(2, 2, 20000, 0, 0, 20000), 0, false},
		{matrix(2, 2, limit/2, limit/2, 1, 0), 0, false},
		{matrix(2, 2, 8000, 1000, 8000, 1000), 0, false},
		{matrix(2, 2, 7000, 500, 7000, 500), 0, true},
	}
	for _, c := range cases {
		checkByImages(t, c.m, c.want, c.fine)
	}
}

// TestCountsOfPrimes has bounds on both sides of those for which one prime more is needed, and determinants as great as the bounds.
func TestCountsOfPrimes(t *testing.T) {
	if imageBound != 60665094 {
		t.Errorf("the greatest bound is %d", imageBound)
	}
	for _, product := range []int{101, 101 * 103, 101 * 103 * 107, 101 * 103 * 107 * 109} {
		for bound := product/2 - 3; bound <= product/2+3; bound++ {
			want, fine := bound, bound <= imageBound
			if !fine {
				want = 0
			}
			checkByImages(t, matrix(1, 1, bound), want, fine)
			checkByImages(t, matrix(1, 1, -bound), -want, fine)
			checkByImages(t, matrix(2, 2, bound, 0, 0, 1), want, fine)
			checkByImages(t, matrix(2, 2, 0, 1, bound, 0), -want, fine)
			// The bound counts, even if the determinant is less or 0.
			less := 0
			if fine {
				less = bound - 2
			}
			checkByImages(t, matrix(2, 2, bound-1, 1, 1, 0), -min(want, 1), fine)
			checkByImages(t, matrix(2, 2, bound-2, 2, 0, 1), less, fine)
			checkByImages(t, matrix(2, 2, 1, 0, bound, 0), 0, fine)
			checkByImages(t, matrix(2, 2, bound-1, 1, 0, 0), 0, true)
		}
	}
	for determinant := -12000; determinant <= 12000; determinant++ {
		checkByImages(t, matrix(1, 1, determinant), determinant, true)
	}
	for determinant := -imageBound; determinant <= imageBound; determinant += 30011 {
		checkByImages(t, matrix(1, 1, determinant), determinant, true)
	}
}

// TestImagesAgreeWithOtherRoads compares the determinants that are found by all roads.
func TestImagesAgreeWithOtherRoads(t *testing.T) {
	check := func(m impl.Matrix) bool {
		t.Helper()
		bound, fine := rowBound(m)
		if !fine || bound > imageBound {
			checkByImages(t, m, 0, false)
			return false
		}
		want := int(trueDeterminant(m).Int64())
		checkByImages(t, m, want, true)
		got, ok := impl.DeterminantOf(m)
		checkNumber(t, "DeterminantOf", m, got, ok, want, true)
		if got, ok := impl.DeterminantBySteps(m); ok {
			checkNumber(t, "DeterminantBySteps", m, got, ok, want, true)
		}
		return true
	}
	counts := map[bool]int{}
	for _, m := range append(squares(), units()...) {
		counts[check(m)]++
		counts[check(matrixOr(impl.TransposeOf(m)))]++
	}
	for word := range 3 * 3 * 3 * 3 * 3 * 3 * 3 * 3 * 3 {
		counts[check(spelled(3, word, []int{0, -1, 7}))]++
	}
	if counts[true] < 20000 || counts[false] < 1000 {
		t.Errorf("%d determinants are found by images, and %d are not", counts[true], counts[false])
	}
}

func TestImagesMultiply(t *testing.T) {
	found := 0
	for k := range 600 {
		n := k % 5
		a, b := mixed(n, n, 4, k), mixed(n, n, 4, k+800)
		left, fineLeft := impl.DeterminantByImages(a)
		right, fineRight := impl.DeterminantByImages(b)
		product, ok := impl.DeterminantByImages(matrixOr(impl.MultiplyMatrices(a, b)))
		if !fineLeft || !fineRight {
			t.Errorf("DeterminantByImages fails for %v or %v", a, b)
		}
		if ok && product != left*right {
			t.Errorf("the determinants of %v and %v are %d and %d, and that of the product is %d", a, b, left, right, product)
		} else if ok {
			found++
		}
	}
	if found < 300 {
		t.Errorf("only %d determinants of products were found", found)
	}
}

func TestImagesRefuse(t *testing.T) {
	for _, m := range noSquares() {
		checkRowBound(t, m, 0, false)
		checkByImages(t, m, 0, false)
	}
	// The sums of these would be within the limit or wrap around to a number.
	for _, m := range []impl.Matrix{matrix(1, 1, math.MinInt), matrix(2, 2, math.MinInt, math.MinInt, 0, 1), matrix(2, 2, math.MaxInt, math.MaxInt, 1, 1), matrix(0, 0, 1), matrix(1, 1, 1, 1)} {
		checkRowBound(t, m, 0, false)
		checkByImages(t, m, 0, false)
	}
}

func TestChineseChangesNoArguments(t *testing.T) {
	for i, list := range append(coprimes(), noCoprimes()...) {
		wholeModuli := append(slices.Clone(list), 71, 72, 73, 74, 75, 76, 77, 78)
		moduli := wholeModuli[:len(list)]
		wholeResidues := append(mixed(1, len(list), limit, i).Cells, 81, 82, 83, 84, 85, 86, 87, 88)
		residues := wholeResidues[:len(list)]
		keptModuli, keptResidues := slices.Clone(wholeModuli), slices.Clone(wholeResidues)
		fine := impl.AreModuli(moduli)
		x, product, ok := impl.ChineseOf(residues, moduli)
		if again := impl.AreModuli(moduli); again != fine || ok != fine {
			t.Errorf("AreModuli(%v) is %t, and %t once more, and ChineseOf says %t", list, fine, again, ok)
		}
		if y, same, again := impl.ChineseOf(residues, moduli); y != x || same != product || again != ok {
			t.Errorf("ChineseOf(%v, %v) is not the same once more", residues, moduli)
		}
		if !slices.Equal(wholeModuli, keptModuli) || !slices.Equal(wholeResidues, keptResidues) {
			t.Errorf("%v or %v was changed", keptResidues, keptModuli)
		}
	}
	for i, arg := range squares() {
		if i%7 != 0 {
			continue
		}
		m, whole := spare(arg)
		kept := slices.Clone(whole)
		for range 2 {
			bound, fine := rowBound(arg)
			checkRowBound(t, m, bound, fine)
			impl.DeterminantByImages(m)
		}
		if !slices.Equal(whole, kept) {
			t.Errorf("%v was changed", arg)
		}
	}
}
