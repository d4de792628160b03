package tests

import (
	"math/big"
	"slices"
	"testing"

	"loop.example/g03411/impl"
)

// maxPart is the greatest bound for the parts of ratios that are found by lifting.
const maxPart = 10000

type road struct {
	name  string
	solve func(impl.Matrix, []int) ([]impl.Ratio, bool)
	// byWords returns what the road is to return for a square matrix and as many numbers, found in another way.
	byWords func(impl.Matrix, []int) ([]impl.Ratio, bool)
}

var (
	determinants = road{"SolveByDeterminants", impl.SolveByDeterminants, quotients}
	echelons     = road{"SolveByEchelon", impl.SolveByEchelon, shown}
	lifting      = road{"SolveByLifting", impl.SolveByLifting, lifted}
	roads        = []road{determinants, echelons, lifting}
)

type system struct {
	m impl.Matrix
	b []int
}

// liftPrimes holds the primes from 101 to 199.
func liftPrimes() []int {
	l := []int{}
	for n, isPrime := range sieve(199) {
		if isPrime && n >= 101 {
			l = append(l, n)
		}
	}
	return l
}

// withNumbers returns the matrix with other numbers in a column.
func withNumbers(m impl.Matrix, place int, b []int) impl.Matrix {
	return built(m.Rows, m.Cols, func(row, col int) int {
		if col == place {
			return b[row]
		}
		return m.Cells[row*m.Cols+col]
	})
}

// beside returns the matrix with the numbers as a further column.
func beside(m impl.Matrix, b []int) impl.Matrix {
	return built(m.Rows, m.Cols+1, func(row, col int) int {
		if col == m.Cols {
			return b[row]
		}
		return m.Cells[row*m.Cols+col]
	})
}

// trueSolution returns the only solution of a system, whatever its size; false if there are none or many.
func trueSolution(m impl.Matrix, b []int) ([]*big.Rat, bool) {
	rows, pivots := bySpace(beside(m, b))
	if !slices.Equal(pivots, upTo(m.Cols)) {
		return nil, false
	}
	x := []*big.Rat{}
	for i, row := range rows {
		x = append(x, new(big.Rat).SetFrac(row[m.Cols], row[i]))
	}
	return x, true
}

// rationalByWords follows the definition of IsRational for a valid matrix, in fractions of any size:
// each product and each sum of the first products is held to the limit.
func rationalByWords(m impl.Matrix, b []int, x []impl.Ratio) bool {
	if len(b) != m.Rows || len(x) != m.Cols {
		return false
	}
	for row, n := range b {
		sum := new(big.Rat)
		for col, r := range x {
			if !ratioByWords(r) {
				return false
			}
			product := new(big.Rat).Mul(big.NewRat(int64(m.Cells[row*m.Cols+col]), 1), exact(r))
			sum.Add(sum, product)
			if inRange(product) == none || inRange(sum) == none {
				return false
			}
		}
		if sum.Cmp(big.NewRat(int64(n), 1)) != 0 {
			return false
		}
	}
	return true
}

func quotients(m impl.Matrix, b []int) ([]impl.Ratio, bool) {
	whole, ok := expanded(m)
	if !ok || whole == 0 {
		return nil, false
	}
	x := []impl.Ratio{}
	for col := range m.Cols {
		part, ok := expanded(withNumbers(m, col, b))
		if !ok {
			return nil, false
		}
		x = append(x, inRange(big.NewRat(int64(part), int64(whole))))
	}
	return x, true
}

func shown(m impl.Matrix, b []int) ([]impl.Ratio, bool) {
	form, pivots, ok := byWay(beside(m, b))
	if !ok || !slices.Equal(pivots, upTo(m.Cols)) {
		return nil, false
	}
	x := []impl.Ratio{}
	for i := range m.Cols {
		cells := form.Cells[i*form.Cols : (i+1)*form.Cols]
		x = append(x, inRange(big.NewRat(int64(cells[m.Cols]), int64(cells[i]))))
	}
	return x, true
}

// lifted needs no digits: the denominators of the solution have no divisor in common with the prime,
// so a ratio within the bound is the only one with its residue, and any other one that is found is no solution.
func lifted(m impl.Matrix, b []int) ([]impl.Ratio, bool) {
	prime := firstPrime(m)
	if prime == 0 {
		return nil, false
	}
	_, bound := liftBound(prime)
	solution, _ := trueSolution(m, b)
	x := []impl.Ratio{}
	for _, part := range solution {
		r := inRange(part)
		if r == none || max(r.Num, -r.Num, r.Den) > bound {
			return nil, false
		}
		x = append(x, r)
	}
	return x, rationalByWords(m, b, x)
}

// firstPrime returns the first prime from 101 to 199 that does not divide the determinant; 0 if there is none.
func firstPrime(m impl.Matrix) int {
	determinant := bigDeterminant(m)
	for _, prime := range liftPrimes() {
		if bigResidue(determinant, prime) != 0 {
			return prime
		}
	}
	return 0
}

// liftBound returns the power to which residues are lifted from a prime, and the bound for the parts of ratios.
func liftBound(prime int) (int, int) {
	power := 1
	for power <= limit/2 && power <= limit/prime {
		power *= prime
	}
	return power, min(boundOf(power), maxPart)
}

// systemsOf returns systems with a matrix: small and great numbers, and such that there is a small whole solution.
func systemsOf(m impl.Matrix, seed int) []system {
	l := []system{
		{m, mixed(1, m.Rows, []int{1, 9, 100, 20000, limit}[seed%5], seed+100).Cells},
		{m, mixed(1, m.Rows, []int{5, 50, 1000}[seed%3], seed+200).Cells},
	}
	if b, ok := impl.MultiplyMatrices(m, mixed(m.Rows, 1, []int{3, 100, 8000}[seed%3], seed+300)); ok {
		l = append(l, system{m, b.Cells})
	}
	return l
}

// systems holds systems of all sizes, for which some of the roads fail and others do not.
func systems() []system {
	l := []system{}
	for i, m := range squares() {
		// The larger ones need much more time to be solved in another way.
		if m.Rows < 4 || i%5 == 0 {
			l = append(l, systemsOf(m, i)...)
		}
	}
	for i, m := range units() {
		if m.Rows < 4 || i%3 == 0 {
			l = append(l, systemsOf(m, i)...)
		}
	}
	for seed := range 60 {
		n := seed%5 + 1
		l = append(l, systemsOf(withDivisors(n, seed), seed)...)
	}
	return l
}

// withDivisors returns a matrix whose determinant is a multiple of the first primes from 101 on.
func withDivisors(n, seed int) impl.Matrix {
	m, primes := mixed(n, n, 5, seed), liftPrimes()
	return built(n, n, func(row, col int) int {
		if row <= seed%4 {
			return m.Cells[row*n+col] * primes[row]
		}
		return m.Cells[row*n+col]
	})
}

func checkRational(t *testing.T, m impl.Matrix, b []int, x []impl.Ratio, want bool) {
	t.Helper()
	if got := impl.IsRational(m, b, x); got != want {
		t.Errorf("IsRational(%v, %v, %v) = %t", m, b, x, got)
	}
}

func checkSolved(t *testing.T, r road, m impl.Matrix, b []int, want ...impl.Ratio) {
	t.Helper()
	if got, ok := r.solve(m, b); !ok || !slices.Equal(got, want) {
		t.Errorf("%s(%v, %v) = %v, %t, want %v, true", r.name, m, b, got, ok, want)
	}
}

func checkUnsolved(t *testing.T, r road, m impl.Matrix, b []int) {
	t.Helper()
	if got, ok := r.solve(m, b); ok || len(got) != 0 {
		t.Errorf("%s(%v, %v) = %v, %t, want an empty list and false", r.name, m, b, got, ok)
	}
}

// checkRoad compares a road with another way to its result, and tells whether there is one.
func checkRoad(t *testing.T, r road, m impl.Matrix, b []int) bool {
	t.Helper()
	want, fine := r.byWords(m, b)
	if fine {
		checkSolved(t, r, m, b, want...)
	} else {
		checkUnsolved(t, r, m, b)
	}
	return fine
}

func TestIsRational(t *testing.T) {
	half, third := ratio(1, 2), ratio(1, 3)
	whole := func(l ...int) []impl.Ratio {
		x := []impl.Ratio{}
		for _, n := range l {
			x = append(x, ratio(n, 1))
		}
		return x
	}
	cases := []struct {
		m    impl.Matrix
		b    []int
		x    []impl.Ratio
		want bool
	}{
		{matrix(2, 2, 2, 1, 1, 3), []int{1, 2}, []impl.Ratio{ratio(1, 5), ratio(3, 5)}, true},
		{matrix(2, 2, 2, 1, 1, 3), []int{1, 2}, []impl.Ratio{ratio(1, 5), ratio(2, 5)}, false},
		{matrix(2, 2, 2, 1, 1, 3), []int{1, 2}, []impl.Ratio{ratio(3, 5), ratio(1, 5)}, false},
		{matrix(2, 2, 2, 1, 1, 3), []int{2, 1}, []impl.Ratio{ratio(1, 5), ratio(3, 5)}, false},
		// One equation alone is true, the first one or the last one.
		{matrix(2, 2, 2, 1, 1, 3), []int{1, 0}, []impl.Ratio{ratio(1, 5), ratio(3, 5)}, false},
		{matrix(2, 2, 2, 1, 1, 3), []int{0, 2}, []impl.Ratio{ratio(1, 5), ratio(3, 5)}, false},
		{matrix(3, 1, 1, 2, 3), []int{2, 4, 6}, whole(2), true},
		{matrix(3, 1, 1, 2, 3), []int{2, 5, 6}, whole(2), false},
		// A matrix need not be square, and there may be many solutions.
		{matrix(1, 2, 2, 3), []int{2}, []impl.Ratio{half, third}, true},
		{matrix(1, 2, 2, 3), []int{2}, whole(1, 0), true},
		{matrix(1, 2, 2, 3), []int{2}, whole(-2, 2), true},
		{matrix(1, 2, 2, 3), []int{2}, whole(0, 1), false},
		{matrix(2, 2, 1, 2, 2, 4), []int{1, 2}, whole(1, 0), true},
		{matrix(2, 2, 1, 2, 2, 4), []int{1, 2}, []impl.Ratio{ratio(0, 1), half}, true},
		{matrix(2, 2, 1, 2, 2, 4), []int{1, 3}, whole(1, 0), false},
		{matrix(1, 1, 0), []int{0}, whole(7), true},
		{matrix(1, 1, 0), []int{1}, whole(7), false},
		{matrix(1, 1, 2), []int{1}, []impl.Ratio{half}, true},
		{matrix(1, 1, 2), []int{0}, []impl.Ratio{half}, false},
		{matrix(1, 1, 1), []int{0}, []impl.Ratio{half}, false},
		{matrix(1, 1, -2), []int{-1}, []impl.Ratio{half}, true},
		{matrix(1, 1, -2), []int{1}, []impl.Ratio{ratio(-1, 2)}, true},
		// The numerator and the denominator alone do not matter.
		{matrix(1, 1, 1), []int{1}, []impl.Ratio{half}, false},
		{matrix(1, 1, 1), []int{2}, []impl.Ratio{half}, false},
		// Numbers at the limit.
		{matrix(1, 1, limit), []int{limit}, whole(1), true},
		{matrix(1, 1, -limit), []int{limit}, whole(-1), true},
		{matrix(1, 1, 1), []int{-limit}, whole(-limit), true},
		{matrix(1, 1, limit), []int{1}, []impl.Ratio{ratio(1, limit)}, true},
		{matrix(1, 1, limit), []int{limit - 1}, []impl.Ratio{ratio(limit-1, limit)}, true},
		{matrix(1, 1, 20000), []int{limit}, whole(20000), true},
		{matrix(1, 1, limit), []int{-limit / 2}, []impl.Ratio{ratio(-1, 2)}, true},
		// The system has this solution, but a product or a sum on the way is beyond the limit.
		{matrix(1, 2, 2, -2), []int{0}, whole(limit, limit), false},
		{matrix(1, 2, 2, -2), []int{0}, whole(limit/2, limit/2), true},
		{matrix(1, 2, 0, 0), []int{0}, whole(limit, limit), true},
		{matrix(1, 3, 1, 1, 1), []int{limit}, whole(limit, 1, -1), false},
		{matrix(1, 3, 1, 1, 1), []int{limit}, whole(limit, -1, 1), true},
		{matrix(1, 3, 1, 1, 1), []int{limit}, whole(1, limit, -1), false},
		{matrix(1, 3, 1, 1, 1), []int{limit}, whole(1, -1, limit), true},
		{matrix(1, 3, 1, 1, 1), []int{limit}, whole(-1, 1, limit), true},
		{matrix(1, 3, 1, 1, 1), []int{limit}, whole(-1, limit, 1), true},
		{matrix(1, 3, -1, -1, -1), []int{-limit}, whole(limit, 1, -1), false},
		{matrix(1, 3, -1, -1, -1), []int{-limit}, whole(limit, -1, 1), true},
		// The denominator of a sum is beyond the limit.
		{matrix(1, 4, 1, 1, 1, 1), []int{0}, []impl.Ratio{ratio(1, 20001), ratio(1, 20000), ratio(-1, 20000), ratio(-1, 20001)}, false},
		{matrix(1, 4, 1, 1, 1, 1), []int{0}, []impl.Ratio{ratio(1, 20001), ratio(-1, 20001), ratio(1, 20000), ratio(-1, 20000)}, true},
		{matrix(1, 4, 1, 1, 1, 1), []int{0}, []impl.Ratio{ratio(1, 20000), ratio(1, 19999), ratio(-1, 20000), ratio(-1, 19999)}, true},
		{matrix(1, 4, 20001, 1, 1, 1), []int{1}, []impl.Ratio{ratio(1, 20001), ratio(1, 20000), ratio(-1, 20000), ratio(0, 1)}, true},
		// A sum that is none stays none, in whichever row.
		{matrix(2, 2, 1, 1, 2, 0), []int{2, 2}, whole(1, 1), true},
		{matrix(2, 2, 1, 0, 2, -1), []int{limit, limit}, whole(limit, limit), false},
		{matrix(2, 2, 2, -1, 1, 0), []int{limit, limit}, whole(limit, limit), false},
		{matrix(2, 2, 1, 0, 1, 0), []int{limit, limit}, whole(limit, limit), true},
	}
	for _, c := range cases {
		if rationalByWords(c.m, c.b, c.x) != c.want {
			t.Errorf("the definition says that IsRational(%v, %v, %v) is not %t", c.m, c.b, c.x, c.want)
		}
		checkRational(t, c.m, c.b, c.x, c.want)
	}
}

// TestRationalsByWords has matrices of all sizes with ratios, and the numbers that these make or others.
func TestRationalsByWords(t *testing.T) {
	ratios := append(someRatios(), ratio(0, 1), ratio(1, 1), ratio(-1, 1))
	counts := map[bool]int{}
	for k := range 4000 {
		rows, cols := k%4, k/4%4
		m := mixed(rows, cols, []int{1, 3, 20, 20000, limit}[k%5], k)
		choice := mixed(1, cols, 1000, k+1).Cells
		x := []impl.Ratio{}
		for _, n := range choice {
			x = append(x, ratios[(n+1000+k)%len(ratios)])
		}
		if k%2 == 0 {
			// Multiples of the denominators make whole numbers.
			for i := range m.Cells {
				if multiple := m.Cells[i] * x[i%cols].Den; multiple <= limit && multiple >= -limit {
					m.Cells[i] = multiple
				}
			}
		}
		b := []int{}
		for row := range rows {
			sum := new(big.Rat)
			for col, r := range x {
				sum.Add(sum, new(big.Rat).Mul(big.NewRat(int64(m.Cells[row*cols+col]), 1), exact(r)))
			}
			floor := new(big.Int).Div(sum.Num(), sum.Denom())
			n, _ := numberOf(floor)
			b = append(b, n)
		}
		want := rationalByWords(m, b, x)
		counts[want]++
		checkRational(t, m, b, x, want)
		for row := range b {
			b[row]++
			checkRational(t, m, b, x, false)
			b[row]--
		}
	}
	if counts[true] < 1000 || counts[false] < 500 {
		t.Errorf("%d are solutions, and %d are none", counts[true], counts[false])
	}
}

func TestIsRationalRefuses(t *testing.T) {
	for _, m := range noMatrices() {
		for n := range 4 {
			for k := range 4 {
				checkRational(t, m, make([]int, n), slices.Repeat([]impl.Ratio{ratio(0, 1)}, k), false)
			}
		}
	}
	// Even with cells that would solve the system.
	checkRational(t, matrix(1, 1, limit+1), []int{limit + 1}, []impl.Ratio{ratio(1, 1)}, false)
	checkRational(t, matrix(1, 2, 1, limit+1), []int{1}, []impl.Ratio{ratio(1, 1), ratio(0, 1)}, false)
	checkRational(t, matrix(1, 1, 1, 1), []int{1}, []impl.Ratio{ratio(1, 1)}, false)
	zeros := func(n int) []impl.Ratio { return slices.Repeat([]impl.Ratio{ratio(0, 1)}, n) }
	for rows := range 4 {
		for cols := range 4 {
			m := mixed(rows, cols, 9, rows)
			for n := range 6 {
				for k := range 6 {
					checkRational(t, m, make([]int, n), zeros(k), n == rows && k == cols)
				}
			}
			checkRational(t, m, make([]int, maxSize+1), zeros(cols), false)
			checkRational(t, m, make([]int, rows), zeros(maxSize+1), false)
		}
	}
	for _, r := range noRatios {
		checkRational(t, matrix(1, 1, 1), []int{r.Num}, []impl.Ratio{r}, false)
		checkRational(t, matrix(1, 1, r.Den%limit), []int{r.Num}, []impl.Ratio{r}, false)
		checkRational(t, matrix(1, 1, 1), []int{0}, []impl.Ratio{r}, false)
		// Not even 0 times it is a ratio.
		checkRational(t, matrix(1, 1, 0), []int{0}, []impl.Ratio{r}, false)
		checkRational(t, matrix(1, 2, 0, 1), []int{1}, []impl.Ratio{r, ratio(1, 1)}, false)
		checkRational(t, matrix(1, 2, 1, 0), []int{1}, []impl.Ratio{ratio(1, 1), r}, false)
		checkRational(t, matrix(2, 3, 1, 0, 1, 0, 0, 0), []int{2, 0}, []impl.Ratio{ratio(1, 1), r, ratio(1, 1)}, false)
	}
	for _, n := range append(beyond, limit+2, -limit-2) {
		for _, r := range append(someRatios(), ratio(1, 1)) {
			checkRational(t, matrix(1, 1, 1), []int{n}, []impl.Ratio{r}, false)
			checkRational(t, matrix(1, 1, 2), []int{n}, []impl.Ratio{r}, false)
			checkRational(t, matrix(1, 1, limit), []int{n}, []impl.Ratio{r}, false)
			checkRational(t, matrix(1, 1, 1), []int{n}, []impl.Ratio{ratio(n, 1)}, false)
			checkRational(t, matrix(2, 1, 0, 0), []int{0, n}, []impl.Ratio{r}, false)
		}
		// The sum that is none is not such a number.
		checkRational(t, matrix(1, 2, 1, 1), []int{n}, []impl.Ratio{ratio(limit, 1), ratio(n-limit, 1)}, false)
	}
	checkRational(t, matrix(1, 2, 1, 1), []int{limit + 1}, []impl.Ratio{ratio(limit, 1), ratio(1, 1)}, false)
	checkRational(t, matrix(1, 2, 1, 1), []int{0}, []impl.Ratio{ratio(limit, 1), ratio(1, 1)}, false)
}

// TestNoEquations has systems without equations: these are true for all numbers, and without any of them, too.
func TestNoEquations(t *testing.T) {
	for _, r := range roads {
		for _, m := range []impl.Matrix{{}, matrix(0, 0), {Cells: []int{}}} {
			checkSolved(t, r, m, nil)
			checkSolved(t, r, m, []int{})
			checkSolved(t, r, m, make([]int, 0, 5))
			// There is no equation for a number.
			checkUnsolved(t, r, m, []int{0})
			checkUnsolved(t, r, m, []int{1})
			checkUnsolved(t, r, m, []int{0, 0})
			checkUnsolved(t, r, m, []int{limit + 1})
		}
		checkUnsolved(t, r, matrix(0, 0, 0), nil)
		for n := 1; n <= maxSize+1; n++ {
			// No equations for some numbers, and equations without numbers.
			checkUnsolved(t, r, matrix(0, n), nil)
			checkUnsolved(t, r, matrix(n, 0), nil)
			checkUnsolved(t, r, matrix(n, 0), make([]int, n))
			// Equations that are true for all numbers do not tell them.
			if n <= maxMinor {
				checkUnsolved(t, r, matrix(n, n, make([]int, n*n)...), make([]int, n))
			}
		}
	}
	checkRational(t, impl.Matrix{}, nil, nil, true)
	checkRational(t, matrix(0, 0), []int{}, []impl.Ratio{}, true)
	checkRational(t, matrix(0, 0), []int{0}, nil, false)
	checkRational(t, matrix(0, 0), nil, []impl.Ratio{ratio(0, 1)}, false)
	for n := 1; n <= maxSize; n++ {
		checkRational(t, matrix(0, n), nil, slices.Repeat([]impl.Ratio{ratio(n, 7*n+1)}, n), true)
		checkRational(t, matrix(0, n), nil, nil, false)
		checkRational(t, matrix(0, n), []int{0}, slices.Repeat([]impl.Ratio{ratio(0, 1)}, n), false)
		// Equations without numbers are true if they say that 0 is 0.
		checkRational(t, matrix(n, 0), make([]int, n), nil, true)
		checkRational(t, matrix(n, 0), nil, nil, false)
		for place := range n {
			b := make([]int, n)
			b[place] = 1
			checkRational(t, matrix(n, 0), b, nil, false)
		}
	}
	// Numbers that no equation asks for need be no ratios.
	checkRational(t, matrix(0, 2), nil, []impl.Ratio{none, ratio(2, 4)}, true)
	checkRational(t, matrix(0, maxSize+1), nil, slices.Repeat([]impl.Ratio{ratio(0, 1)}, maxSize+1), false)
}

func TestRoadsSolve(t *testing.T) {
	cases := []struct {
		m    impl.Matrix
		b    []int
		want []impl.Ratio
	}{
		{matrix(2, 2, 2, 1, 1, 3), []int{1, 2}, []impl.Ratio{ratio(1, 5), ratio(3, 5)}},
		{matrix(2, 2, 1, 2, 3, 4), []int{5, 11}, []impl.Ratio{ratio(1, 1), ratio(2, 1)}},
		{matrix(2, 2, 1, 2, 3, 4), []int{0, 0}, []impl.Ratio{ratio(0, 1), ratio(0, 1)}},
		{matrix(2, 2, 1, 2, 3, 4), []int{-1, 0}, []impl.Ratio{ratio(2, 1), ratio(-3, 2)}},
		{matrix(2, 2, 0, 1, 1, 0), []int{3, 4}, []impl.Ratio{ratio(4, 1), ratio(3, 1)}},
		{matrix(2, 2, 0, -2, 3, 0), []int{3, 4}, []impl.Ratio{ratio(4, 3), ratio(-3, 2)}},
		{matrix(1, 1, 7), []int{-3}, []impl.Ratio{ratio(-3, 7)}},
		{matrix(1, 1, -7), []int{-3}, []impl.Ratio{ratio(3, 7)}},
		{matrix(1, 1, -6), []int{4}, []impl.Ratio{ratio(-2, 3)}},
		{matrix(1, 1, limit), []int{limit}, []impl.Ratio{ratio(1, 1)}},
		{matrix(1, 1, limit), []int{-limit / 2}, []impl.Ratio{ratio(-1, 2)}},
		{matrix(1, 1, limit), []int{80000}, []impl.Ratio{ratio(1, 5000)}},
		{matrix(3, 3, 1, 2, 3, 4, 5, 6, 7, 8, 10), []int{1, 1, 1}, []impl.Ratio{ratio(-1, 1), ratio(1, 1), ratio(0, 1)}},
		{matrix(3, 3, 1, 2, 3, 4, 5, 6, 7, 8, 10), []int{1, 0, 0}, []impl.Ratio{ratio(-2, 3), ratio(-2, 3), ratio(1, 1)}},
		{matrix(3, 3, 0, 0, 2, 0, 3, 0, 5, 0, 0), []int{1, 1, 1}, []impl.Ratio{ratio(1, 5), ratio(1, 3), ratio(1, 2)}},
		// The first primes divide the determinant.
		{matrix(1, 1, 101), []int{1}, []impl.Ratio{ratio(1, 101)}},
		{matrix(1, 1, 101), []int{101}, []impl.Ratio{ratio(1, 1)}},
		{matrix(2, 2, 101, 0, 0, 103), []int{1, 1}, []impl.Ratio{ratio(1, 101), ratio(1, 103)}},
		{matrix(2, 2, 50, 51, 51, 50), []int{1, 1}, []impl.Ratio{ratio(1, 101), ratio(1, 101)}},
		{matrix(2, 2, 0, 10403, -107, 0), []int{10403, 1}, []impl.Ratio{ratio(-1, 107), ratio(1, 1)}},
		{matrix(2, 2, 101, 103, 107, 109), []int{204, 216}, []impl.Ratio{ratio(1, 1), ratio(1, 1)}},
	}
	for _, c := range cases {
		checkRational(t, c.m, c.b, c.want, true)
		for _, r := range roads {
			if want, ok := r.byWords(c.m, c.b); !ok || !slices.Equal(want, c.want) {
				t.Errorf("by words %s(%v, %v) is %v, %t, want %v, true", r.name, c.m, c.b, want, ok, c.want)
			}
			checkSolved(t, r, c.m, c.b, c.want...)
		}
	}
	for _, c := range []system{
		{matrix(2, 2, 1, 2, 2, 4), []int{1, 2}},
		{matrix(2, 2, 1, 2, 2, 4), []int{1, 3}},
		{matrix(2, 2, 1, 2, 2, 4), []int{0, 0}},
		{matrix(2, 2, 0, 1, 0, 2), []int{1, 2}},
		{matrix(2, 2, 0, 1, 0, 2), []int{1, 1}},
		{matrix(2, 2, 1, 0, 0, 0), []int{1, 0}},
		{matrix(2, 2, 1, 0, 0, 0), []int{1, 1}},
		{matrix(1, 1, 0), []int{0}},
		{matrix(1, 1, 0), []int{5}},
		{matrix(3, 3, 1, 2, 3, 4, 5, 6, 7, 8, 9), []int{1, 1, 1}},
		{matrix(3, 3, 1, 2, 3, 4, 5, 6, 7, 8, 9), []int{1, 0, 0}},
		{matrix(3, 3, 1, 0, 0, 0, 0, 1, 0, 0, 0), []int{1, 1, 1}},
	} {
		for _, r := range roads {
			checkUnsolved(t, r, c.m, c.b)
		}
	}
}

// TestEachRoadAlone has systems that some of the roads do not solve.
func TestEachRoadAlone(t *testing.T) {
	cases := []struct {
		name string
		m    impl.Matrix
		b    []int
		// fine tells for each of the roads whether it leads to the solution.
		fine [3]bool
	}{
		{"small numbers", matrix(2, 2, 2, 1, 1, 3), []int{1, 2}, [3]bool{true, true, true}},
		{"a great part", matrix(1, 1, 1), []int{limit}, [3]bool{true, true, false}},
		{"a great denominator", matrix(1, 1, limit), []int{-1}, [3]bool{true, true, false}},
		{"a great part that is the last one", matrix(2, 2, 1, 0, 0, 1), []int{1, 9000}, [3]bool{true, true, false}},
		{"a great part that is the first one", matrix(2, 2, 1, 0, 0, 1), []int{-9000, 1}, [3]bool{true, true, false}},
		// The power of 101 is 104060401.
		{"the residue of 1/2", matrix(1, 1, 1), []int{52030201}, [3]bool{true, true, false}},
		{"the residue of 0", matrix(1, 1, 1), []int{104060401}, [3]bool{true, true, false}},
		{"the residue of -1", matrix(1, 1, 1), []int{104060400}, [3]bool{true, true, false}},
		{"a determinant beyond the limit", matrix(2, 2, 20000, 0, 0, 20001), []int{20000, 20001}, [3]bool{false, true, true}},
		{"a determinant with the first column replaced beyond the limit", matrix(2, 2, 20000, 0, 0, 20000), []int{20001, 20000}, [3]bool{false, true, false}},
		{"a determinant with the last column replaced beyond the limit", matrix(2, 2, 20000, 0, 0, 20000), []int{20000, 20001}, [3]bool{false, true, false}},
		{"a determinant that is met", matrix(3, 3, 1, 1, 0, limit, limit, -1, 0, 1, 1), []int{2, limit, 2}, [3]bool{false, true, false}},
		{"a cell of the echelon form", matrix(3, 3, 20001, 0, 1, 1, 0, 0, 1, 20001, 0), []int{1, 0, 0}, [3]bool{true, false, true}},
		{"a cell of the further column", matrix(2, 2, 1, 20001, 0, 1), []int{0, 20001}, [3]bool{false, false, false}},
		{"the same with the other sign", matrix(2, 2, 1, -20001, 0, 1), []int{0, 20001}, [3]bool{false, false, false}},
		{"a cell of the further column at the limit", matrix(2, 2, 1, 20000, 0, 1), []int{0, 20000}, [3]bool{true, true, false}},
		{"a cell of the echelon form and a great part", matrix(3, 3, 20001, 0, 1, 1, 0, 0, 1, 20001, 0), []int{9000, 0, 0}, [3]bool{true, false, false}},
		{"a determinant and a cell of the echelon form", matrix(2, 2, 20001, 1, 1, 20001), []int{20002, 20002}, [3]bool{false, false, true}},
		// The parts of the solution, 2 and 1, are small, but a product of the first equation is not.
		{"a product beyond the limit", matrix(2, 2, limit, -limit, 0, 1), []int{limit, 1}, [3]bool{false, true, false}},
		// The sum of the first two products, not that of all, is beyond the limit.
		{"a sum beyond the limit", matrix(3, 3, limit, 1, -1, 0, 1, 0, 0, 0, 1), []int{limit, 1, 1}, [3]bool{true, true, false}},
		{"a sum at the limit", matrix(3, 3, limit-1, 1, -1, 0, 1, 0, 0, 0, 1), []int{limit - 1, 1, 1}, [3]bool{true, true, true}},
		{"the same sum in another order", matrix(3, 3, 1, -1, limit, 1, 0, 0, 0, 1, 0), []int{limit, 1, 1}, [3]bool{true, true, true}},
	}
	for _, c := range cases {
		solution, _ := trueSolution(c.m, c.b)
		want := []impl.Ratio{}
		for _, x := range solution {
			want = append(want, inRange(x))
		}
		for i, r := range roads {
			if _, fine := r.byWords(c.m, c.b); fine != c.fine[i] {
				t.Errorf("%s: by words %s(%v, %v) returns %t", c.name, r.name, c.m, c.b, fine)
			}
			if c.fine[i] {
				checkSolved(t, r, c.m, c.b, want...)
			} else {
				checkUnsolved(t, r, c.m, c.b)
			}
		}
	}
}

// TestRoadsByWords compares all roads with other ways to their results, and with the solution itself.
func TestRoadsByWords(t *testing.T) {
	counts, unsolvable := map[[3]bool]int{}, 0
	for _, s := range systems() {
		solution, only := trueSolution(s.m, s.b)
		fine := [3]bool{}
		for i, r := range roads {
			fine[i] = checkRoad(t, r, s.m, s.b)
			x, ok := r.solve(s.m, s.b)
			if ok && !only {
				t.Errorf("%s(%v, %v) = %v, but there are no solutions or many", r.name, s.m, s.b, x)
			}
			for place := range x {
				if only && x[place] != inRange(solution[place]) {
					t.Errorf("%s(%v, %v) = %v, want %v", r.name, s.m, s.b, x, solution)
				}
			}
			if ok {
				checkRational(t, s.m, s.b, x, rationalByWords(s.m, s.b, x))
			}
		}
		if only {
			counts[fine]++
		} else {
			unsolvable++
		}
	}
	for word := range 8 {
		fine := [3]bool{word&1 != 0, word&2 != 0, word&4 != 0}
		if counts[fine] < 5 {
			t.Errorf("only %d systems are solved as %v tells", counts[fine], fine)
		}
	}
	if unsolvable < 100 || counts[[3]bool{true, true, true}] < 500 {
		t.Errorf("%d systems have no solution or many, and the others are solved like this: %v", unsolvable, counts)
	}
}

// TestSmallSystems goes through all systems with small numbers: all roads lead to the only solution, if there is one.
func TestSmallSystems(t *testing.T) {
	check := func(m impl.Matrix, b []int, want ...impl.Ratio) {
		t.Helper()
		for _, r := range roads {
			if want == nil {
				checkUnsolved(t, r, m, b)
			} else {
				checkSolved(t, r, m, b, want...)
			}
		}
		if want != nil {
			checkRational(t, m, b, want, true)
		}
	}
	for a := -110; a <= 110; a++ {
		for b := -30; b <= 30; b++ {
			if a == 0 {
				check(matrix(1, 1, a), []int{b})
			} else {
				check(matrix(1, 1, a), []int{b}, inRange(big.NewRat(int64(b), int64(a))))
			}
		}
	}
	for word := range 5 * 5 * 5 * 5 {
		m := spelled(2, word, []int{0, 1, -1, 2, -3})
		p, q, r, s := m.Cells[0], m.Cells[1], m.Cells[2], m.Cells[3]
		determinant := int64(p*s - q*r)
		for c := -3; c <= 3; c++ {
			for d := -2; d <= 2; d++ {
				if determinant == 0 {
					check(m, []int{c, d})
					continue
				}
				x, y := big.NewRat(int64(c*s-q*d), determinant), big.NewRat(int64(p*d-c*r), determinant)
				check(m, []int{c, d}, inRange(x), inRange(y))
			}
		}
	}
	for word := range 3 * 3 * 3 * 3 * 3 * 3 * 3 * 3 * 3 {
		m, b := spelled(3, word, []int{0, 1, -2}), []int{word%5 - 2, 1, word % 3}
		solution, only := trueSolution(m, b)
		if !only {
			check(m, b)
			continue
		}
		check(m, b, inRange(solution[0]), inRange(solution[1]), inRange(solution[2]))
	}
}

// TestSolutionsComeBack makes systems from their solutions.
func TestSolutionsComeBack(t *testing.T) {
	solved := [3]int{}
	for k := range 1500 {
		n, den := k%(maxMinor+1), k%9+1
		m, nums := mixed(n, n, 9, k), mixed(n, 1, 40, k+700)
		b := matrixOr(impl.MultiplyMatrices(matrixOr(impl.ScaleMatrix(m, k%3+1)), nums)).Cells
		// (den * m) * (nums / den) = m * nums, and so on.
		m = matrixOr(impl.ScaleMatrix(m, den*(k%3+1)))
		if bigDeterminant(m).Sign() == 0 {
			continue
		}
		want := []impl.Ratio{}
		for _, num := range nums.Cells {
			want = append(want, inRange(big.NewRat(int64(num), int64(den))))
		}
		checkRational(t, m, b, want, true)
		for i, r := range roads {
			x, ok := r.solve(m, b)
			if ok {
				solved[i]++
				checkSolved(t, r, m, b, want...)
			} else if len(x) != 0 || r.name == lifting.name {
				t.Errorf("%s(%v, %v) = %v, %t, want %v, true", r.name, m, b, x, ok, want)
			}
		}
	}
	if slices.Min(solved[:]) < 500 {
		t.Errorf("the roads solve %v of the systems", solved)
	}
}

// TestSameEquations has the same equations in another order, several times, or added to each other.
func TestSameEquations(t *testing.T) {
	compared := 0
	for k := range 800 {
		n := k%5 + 2
		m, b := mixed(n, n, 4, k), mixed(n, 1, 6, k+900).Cells
		solution, only := trueSolution(m, b)
		both, ok := impl.DoRowOps(beside(m, b), mixedOps(n, k%7, k))
		if !only || !ok {
			continue
		}
		other := built(n, n, func(row, col int) int { return both.Cells[row*(n+1)+col] })
		c := built(n, 1, func(row, _ int) int { return both.Cells[row*(n+1)+n] }).Cells
		for _, r := range roads {
			x, fine := r.solve(m, b)
			y, ok := r.solve(other, c)
			if !fine || !ok {
				continue
			}
			compared++
			for i, part := range solution {
				if x[i] != inRange(part) || y[i] != x[i] {
					t.Errorf("%s(%v, %v) = %v, but %s(%v, %v) = %v", r.name, m, b, x, r.name, other, c, y)
					break
				}
			}
		}
	}
	if compared < 1000 {
		t.Errorf("only %d solutions were compared", compared)
	}
}

// TestLiftBounds has for each prime the parts that are just small enough, and those that are just too great.
func TestLiftBounds(t *testing.T) {
	known := map[int][2]int{101: {104060401, 7213}, 103: {112550881, 7501}, 113: {163047361, 9029}, 127: {260144641, maxPart}, 139: {373301041, maxPart}, 149: {3307949, 1286}, 199: {7880599, 1985}}
	for i, prime := range liftPrimes() {
		power, bound := liftBound(prime)
		if want, ok := known[prime]; ok && want != [2]int{power, bound} {
			t.Errorf("from %d the power is %d and the bound %d, want %v", prime, power, bound, want)
		}
		cells := blocked(i)
		check := func(last, b int, want impl.Ratio) {
			t.Helper()
			diagonal := append(slices.Clone(cells[:maxMinor-1]), last)
			m := built(maxMinor, maxMinor, func(row, col int) int {
				if row != col {
					return 0
				}
				return diagonal[row]
			})
			if got := firstPrime(m); got != prime {
				t.Fatalf("the first prime for %v is %d, want %d", m, got, prime)
			}
			x := slices.Repeat([]impl.Ratio{ratio(1, 1)}, maxMinor)
			x[maxMinor-1] = want
			if max(want.Num, -want.Num, want.Den) > bound {
				checkUnsolved(t, lifting, m, append(slices.Clone(diagonal[:maxMinor-1]), b))
			} else {
				checkSolved(t, lifting, m, append(slices.Clone(diagonal[:maxMinor-1]), b), x...)
			}
		}
		last := cells[maxMinor-1]
		for _, n := range []int{0, 1, -1, 100, bound - 1, bound, -bound, bound + 1, -bound - 1, bound + 2, maxPart + 1} {
			check(last, last*n, ratio(n, 1))
		}
		for _, den := range []int{2, 3, 100, bound - 1, bound, bound + 1, bound + 2, maxPart, maxPart + 1} {
			// With a multiple of the prime the next one would be taken.
			if den%prime != 0 {
				check(last*den, last, ratio(1, den))
				check(last*den, -last, ratio(-1, den))
			}
		}
	}
}

// blocked returns the diagonal of a matrix that has inverses modulo all primes from 101 to 199 but the first ones.
func blocked(count int) []int {
	groups := [][]int{{107, 131, 149, 167}, {109, 137, 151, 163}, {113, 127, 139, 157}, {173, 181, 193}, {179, 191, 197}, {101, 103, 199}}
	cells := []int{}
	for _, group := range groups {
		product := 1
		for _, prime := range group {
			if slices.Index(liftPrimes(), prime) < count {
				product *= prime
			}
		}
		cells = append(cells, product)
	}
	return cells
}

// TestNoPrime has determinants that all primes from 101 to 199 divide, but no greater one and no lesser one.
func TestNoPrime(t *testing.T) {
	if l := liftPrimes(); len(l) != 21 || l[0] != 101 || l[20] != 199 {
		t.Errorf("the primes are %v", l)
	}
	for k := range 12 {
		for _, count := range []int{20, 21} {
			cells := blocked(count)
			// Rows and columns out of order.
			m := built(maxMinor, maxMinor, func(row, col int) int {
				if (row*5+k)%maxMinor != col {
					return 0
				}
				return cells[(col+k/2)%maxMinor]
			})
			ones := slices.Repeat([]impl.Ratio{ratio(1, 1)}, maxMinor)
			b := []int{}
			for row := range maxMinor {
				b = append(b, slices.Max(m.Cells[row*maxMinor:(row+1)*maxMinor]))
			}
			checkRational(t, m, b, ones, true)
			checkSolved(t, echelons, m, b, ones...)
			if count == 20 {
				checkSolved(t, lifting, m, b, ones...)
				continue
			}
			if got := firstPrime(m); got != 0 {
				t.Errorf("the first prime for %v is %d", m, got)
			}
			checkUnsolved(t, lifting, m, b)
			checkUnsolved(t, lifting, m, make([]int, maxMinor))
		}
	}
}

// TestGreatRests has cells so great that what is left on the way is beyond the limit, and so great parts of the solutions
// that all digits are needed.
func TestGreatRests(t *testing.T) {
	solved := 0
	for k := range 900 {
		n, den := k%maxMinor+1, 6900+k%300
		times, nums := mixed(n, n, limit/den, k), mixed(n, 1, den-1, k+1100)
		// (den * times) * (nums / den) = times * nums.
		m := matrixOr(impl.ScaleMatrix(times, den))
		b, ok := impl.MultiplyMatrices(times, nums)
		if ok && checkRoad(t, lifting, m, b.Cells) {
			solved++
		}
		checkRoad(t, lifting, mixed(n, n, limit, k), nums.Cells)
	}
	if solved < 200 {
		t.Errorf("only %d systems were solved", solved)
	}
	for n := 1; n <= maxMinor; n++ {
		one := matrixOr(impl.IdentityMatrix(n))
		checkSolved(t, lifting, matrixOr(impl.ScaleMatrix(one, limit)), slices.Repeat([]int{-limit}, n), slices.Repeat([]impl.Ratio{ratio(-1, 1)}, n)...)
		checkSolved(t, lifting, matrixOr(impl.ScaleMatrix(one, -limit)), slices.Repeat([]int{-limit}, n), slices.Repeat([]impl.Ratio{ratio(1, 1)}, n)...)
	}
	m := matrix(2, 2, limit/2, limit/2, limit/2, limit/2-1)
	checkSolved(t, lifting, m, []int{-limit, 1 - limit}, ratio(-1, 1), ratio(-1, 1))
	checkSolved(t, lifting, m, []int{0, 1}, ratio(1, 1), ratio(-1, 1))
}

func TestRoadsRefuse(t *testing.T) {
	one := matrixOr(impl.IdentityMatrix(3))
	for _, r := range roads {
		for _, m := range noSquares() {
			for _, n := range []int{0, 1, 2, 3, 6, 7} {
				checkUnsolved(t, r, m, make([]int, n))
			}
			if 0 <= m.Rows && m.Rows <= maxSize+1 {
				checkUnsolved(t, r, m, make([]int, m.Rows))
			}
		}
		// One row more than there may be.
		for n := range maxSize + 1 {
			m, b := matrixOr(impl.IdentityMatrix(n)), upTo(n)
			want := []impl.Ratio{}
			for _, x := range b {
				want = append(want, ratio(x, 1))
			}
			checkRational(t, m, b, want, true)
			if n <= maxMinor {
				checkSolved(t, r, m, b, want...)
			} else {
				checkUnsolved(t, r, m, b)
			}
			for count := range maxMinor + 3 {
				if count != n {
					checkUnsolved(t, r, m, make([]int, count))
				}
			}
		}
		for _, b := range [][]int{nil, {}, {1}, {1, 2}, {1, 2, 3, 4}, make([]int, maxSize), make([]int, maxSize+1), make([]int, 1000)} {
			checkUnsolved(t, r, one, b)
		}
		for _, n := range append(beyond, limit+2, -limit-2, 1<<33, 3<<40) {
			for place := range 3 {
				b := []int{1, 2, 3}
				b[place] = n
				checkUnsolved(t, r, one, b)
			}
			// The solutions would be within the limit, or the numbers those of others.
			checkUnsolved(t, r, matrix(1, 1, 2), []int{n})
			checkUnsolved(t, r, matrix(1, 1, limit), []int{n})
			checkUnsolved(t, r, matrix(1, 1, 1), []int{n})
			checkUnsolved(t, r, matrix(1, 1, 0), []int{n})
			checkUnsolved(t, r, one, []int{0, 0, 0, n})
			checkUnsolved(t, r, matrix(1, 1, n), []int{n})
			checkUnsolved(t, r, matrix(1, 1, n), []int{0})
			checkUnsolved(t, r, matrix(2, 2, 1, 0, 0, n), []int{1, 1})
		}
		checkUnsolved(t, r, matrix(1, 1, limit+1), []int{limit + 1})
		checkUnsolved(t, r, matrix(1, 1, 2), []int{limit + 2})
		checkSolved(t, r, matrix(1, 1, limit), []int{limit}, ratio(1, 1))
		checkSolved(t, r, matrix(1, 1, limit), []int{-limit}, ratio(-1, 1))
		checkSolved(t, r, matrix(1, 1, -limit), []int{-limit}, ratio(1, 1))
	}
}

func TestSolutionsShareNoMemory(t *testing.T) {
	all := append(systems(), system{matrix(0, 0), nil}, system{matrix(2, 3, 1, 2, 3, 4, 5, 6), []int{1, 2}}, system{mixed(7, 7, 9, 1), upTo(7)})
	for i, s := range all {
		if i%7 != 0 && i < len(all)-3 {
			continue
		}
		m, whole := spare(s.m)
		wholeOfB := append(slices.Clone(s.b), 71, 72, 73, 74)
		b := wholeOfB[:len(s.b)]
		wholeOfX := append(slices.Repeat([]impl.Ratio{ratio(1, 1)}, m.Cols), ratio(5, 7), ratio(2, 4))
		kept, keptB, keptX := slices.Clone(whole), slices.Clone(wholeOfB), slices.Clone(wholeOfX)
		for _, r := range roads {
			before, fine := r.solve(s.m, s.b)
			before = slices.Clone(before)
			for range 2 {
				x, ok := r.solve(m, b)
				if ok != fine || !slices.Equal(x, before) {
					t.Errorf("%s(%v, %v) = %v, %t, and once more %v, %t", r.name, s.m, s.b, before, fine, x, ok)
				}
				x = x[:cap(x)]
				for place := range x {
					x[place] = ratio(-99, -99)
				}
				impl.IsRational(m, b, wholeOfX[:m.Cols])
				if !slices.Equal(whole, kept) || !slices.Equal(wholeOfB, keptB) || !slices.Equal(wholeOfX, keptX) {
					t.Fatalf("%s(%v, %v) changes an argument", r.name, s.m, s.b)
				}
			}
		}
	}
}
