package tests

import (
	"math"
	"math/big"
	"slices"
	"testing"

	"loop.example/g03411/impl"
)

const (
	maxPrime    = 10000
	inverseRows = 12
)

// somePrimes holds the least and the greatest ones, and such between that sums of products of residues pass the limit or do not.
var somePrimes = []int{2, 3, 5, 7, 13, 101, 5779, 9967, 9973}

// noPrimes holds what is no prime up to the limit: 0, 1, negative numbers, products, squares of primes, and primes beyond.
var noPrimes = []int{
	0, 1, -1, -2, -3, -7, 4, 6, 9, 15, 25, 49, 91, 561, 1729, 7921, 9409, 9701, 9797, 9991, 9999, maxPrime, maxPrime + 1, 10007, 10009, 10201,
	65537, 399999959, limit, limit + 1, 1 << 32, 1<<32 + 2, 1<<32 + 7, -(1 << 32) + 3, math.MaxInt32, math.MaxInt, math.MinInt, math.MinInt + 2,
}

// sieve tells for each number up to a bound whether it is a prime.
func sieve(bound int) []bool {
	l := slices.Repeat([]bool{true}, bound+1)
	l[0], l[1] = false, false
	for n := 2; n <= bound; n++ {
		for multiple := n + n; l[n] && multiple <= bound; multiple += n {
			l[multiple] = false
		}
	}
	return l
}

func residue(n, p int) int { return bigResidue(big.NewInt(int64(n)), p) }

// bigResidue relies on Mod, which leaves no negative remainder.
func bigResidue(n *big.Int, p int) int { return int(new(big.Int).Mod(n, big.NewInt(int64(p))).Int64()) }

func residues(m impl.Matrix, p int) impl.Matrix {
	return built(m.Rows, m.Cols, func(row, col int) int { return residue(m.Cells[row*m.Cols+col], p) })
}

// residueProduct multiplies two matrices and takes the residues of each product on the way.
func residueProduct(a, b impl.Matrix, p int) impl.Matrix {
	return built(a.Rows, b.Cols, func(row, col int) int {
		sum := 0
		for k := range a.Cols {
			sum += residue(a.Cells[row*a.Cols+k], p) * residue(b.Cells[k*b.Cols+col], p)
		}
		return residue(sum, p)
	})
}

func columnOf(b []int) impl.Matrix { return matrix(len(b), 1, b...) }

// rankOver returns the rank over the residues on another way than the program's: each row is held against those kept so far,
// from its last column on, and no inverse is needed.
func rankOver(m impl.Matrix, p int) int {
	kept := map[int][]int{}
	for row := range m.Rows {
		cells := residues(matrix(1, m.Cols, m.Cells[row*m.Cols:(row+1)*m.Cols]...), p).Cells
		for col := m.Cols - 1; col >= 0; col-- {
			if cells[col] == 0 {
				continue
			}
			other := kept[col]
			if other == nil {
				kept[col] = cells
				break
			}
			x, y := cells[col], other[col]
			for j := range cells {
				cells[j] = residue(y*cells[j]-x*other[j], p)
			}
		}
	}
	return len(kept)
}

// bigDeterminant returns the determinant of a matrix of any size, by fractions. It knows no limits.
func bigDeterminant(m impl.Matrix) *big.Int {
	rows, product := [][]*big.Rat{}, big.NewRat(1, 1)
	for _, row := range bigRows(m) {
		fractions := []*big.Rat{}
		for _, cell := range row {
			fractions = append(fractions, new(big.Rat).SetInt(cell))
		}
		rows = append(rows, fractions)
	}
	for t := range rows {
		place := len(rows) - 1
		for place >= t && rows[place][t].Sign() == 0 {
			place--
		}
		if place < t {
			return new(big.Int)
		}
		if place > t {
			rows[t], rows[place] = rows[place], rows[t]
			product.Neg(product)
		}
		product.Mul(product, rows[t][t])
		for _, row := range rows[t+1:] {
			times := new(big.Rat).Quo(row[t], rows[t][t])
			for j := t; j < len(row); j++ {
				row[j].Sub(row[j], new(big.Rat).Mul(times, rows[t][j]))
			}
		}
	}
	return product.Num()
}

// greatSquares holds square matrices of more rows than those of which determinants are expanded.
func greatSquares() []impl.Matrix {
	l := []impl.Matrix{}
	for n := maxMinor + 1; n <= maxSize; n++ {
		one := matrixOr(impl.IdentityMatrix(n))
		l = append(l, one, matrix(n, n, make([]int, n*n)...), mixed(n, n, limit, n), mixed(n, n, 1, n), sparse(n, 9, 4, n), dependent(n, n), triangle(n, 40, n))
		if n >= 10 && n <= 14 {
			for seed := range 6 {
				l = append(l, mixed(n, n, 2, seed), mixed(n, n, limit, seed), triangle(n, 20000, seed), matrixOr(impl.DoRowOps(one, mixedOps(n, 12, seed))))
			}
		}
	}
	return l
}

func checkRankMod(t *testing.T, m impl.Matrix, p, want int, fine bool) {
	t.Helper()
	if got, ok := impl.RankMod(m, p); got != want || ok != fine {
		t.Errorf("RankMod(%v, %d) = %d, %t, want %d, %t", m, p, got, ok, want, fine)
	}
}

func checkDeterminantMod(t *testing.T, m impl.Matrix, p, want int, fine bool) {
	t.Helper()
	if got, ok := impl.DeterminantMod(m, p); got != want || ok != fine {
		t.Errorf("DeterminantMod(%v, %d) = %d, %t, want %d, %t", m, p, got, ok, want, fine)
	}
}

// checkInverseMod expects an inverse whose product with the matrix is the identity matrix, from both sides.
func checkInverseMod(t *testing.T, m impl.Matrix, p int) impl.Matrix {
	t.Helper()
	got, ok := impl.InverseMod(m, p)
	one := built(m.Rows, m.Rows, func(row, col int) int { return max(1-max(row-col, col-row), 0) })
	if !ok || got.Rows != m.Rows || got.Cols != m.Rows || len(got.Cells) != m.Rows*m.Rows {
		t.Fatalf("InverseMod(%v, %d) = %v, %t", m, p, got, ok)
	}
	if !same(got, residues(got, p)) || !same(residueProduct(m, got, p), one) || !same(residueProduct(got, m, p), one) {
		t.Errorf("InverseMod(%v, %d) = %v, which is no inverse", m, p, got)
	}
	return got
}

func checkNoInverseMod(t *testing.T, name string, m impl.Matrix, p int) {
	t.Helper()
	got, ok := impl.InverseMod(m, p)
	checkNoMatrix(t, name, got, ok)
}

func checkSolveMod(t *testing.T, m impl.Matrix, b []int, p int, want ...int) {
	t.Helper()
	if got, ok := impl.SolveMod(m, b, p); !ok || !slices.Equal(got, want) {
		t.Errorf("SolveMod(%v, %v, %d) = %v, %t, want %v, true", m, b, p, got, ok, want)
	}
}

func checkNoSolveMod(t *testing.T, name string, m impl.Matrix, b []int, p int) {
	t.Helper()
	if got, ok := impl.SolveMod(m, b, p); ok || len(got) != 0 {
		t.Errorf("%s: SolveMod(%v, %v, %d) = %v, %t, want an empty list and false", name, m, b, p, got, ok)
	}
}

func TestIsPrime(t *testing.T) {
	if impl.MaxPrime != maxPrime {
		t.Errorf("MaxPrime is %d, want %d", impl.MaxPrime, maxPrime)
	}
	prime := sieve(3 * maxPrime)
	count := 0
	for n, isPrime := range prime {
		want := isPrime && n <= maxPrime
		if got := impl.IsPrime(n); got != want {
			t.Errorf("IsPrime(%d) = %t", n, got)
		}
		if n > 0 && impl.IsPrime(-n) {
			t.Errorf("IsPrime(%d) = true", -n)
		}
		if want {
			count++
		}
	}
	if count != 1229 {
		t.Errorf("there are %d primes, want 1229", count)
	}
	for _, p := range somePrimes {
		if !impl.IsPrime(p) {
			t.Errorf("IsPrime(%d) = false", p)
		}
	}
	for _, p := range noPrimes {
		if impl.IsPrime(p) {
			t.Errorf("IsPrime(%d) = true", p)
		}
	}
}

func TestReduceMod(t *testing.T) {
	cases := []struct {
		m    impl.Matrix
		p    int
		want impl.Matrix
	}{
		{matrix(1, 2, -1, 9), 7, matrix(1, 2, 6, 2)},
		{matrix(2, 2, 0, 1, -1, -2), 2, matrix(2, 2, 0, 1, 1, 0)},
		{matrix(1, 5, 6, 7, 8, -7, -8), 7, matrix(1, 5, 6, 0, 1, 0, 6)},
		{matrix(3, 1, limit, -limit, 9973), 9973, matrix(3, 1, limit-9973*40108, 9973*40109-limit, 0)},
		{matrix(0, 3), 5, matrix(0, 3)},
		{matrix(3, 0), 5, matrix(3, 0)},
		{impl.Matrix{}, 2, impl.Matrix{}},
	}
	for _, c := range cases {
		got, ok := impl.ReduceMod(c.m, c.p)
		checkMatrix(t, "residues", got, ok, c.want)
	}
	for _, m := range append(someMatrices(), squares()...) {
		for _, p := range somePrimes {
			got, ok := impl.ReduceMod(m, p)
			checkMatrix(t, "residues", got, ok, residues(m, p))
			again, ok := impl.ReduceMod(got, p)
			checkMatrix(t, "residues of residues", again, ok, got)
		}
	}
}

func TestReducedSumsAndProducts(t *testing.T) {
	for k := range 200 {
		p := somePrimes[k%len(somePrimes)]
		a, b, c := mixed(k%5, k%7, 3000, k), mixed(k%5, k%7, 3000, k+1), mixed(k%7, k%3, 3000, k+2)
		reduced := func(m impl.Matrix) impl.Matrix { return matrixOr(impl.ReduceMod(m, p)) }
		got := reduced(matrixOr(impl.AddMatrices(a, b)))
		checkMatrix(t, "a sum of residues", reduced(matrixOr(impl.AddMatrices(reduced(a), reduced(b)))), true, got)
		got = reduced(matrixOr(impl.MultiplyMatrices(a, c)))
		checkMatrix(t, "a product of residues", residueProduct(reduced(a), reduced(c), p), true, got)
		got = reduced(matrixOr(impl.TransposeOf(a)))
		checkMatrix(t, "residues turned over", matrixOr(impl.TransposeOf(reduced(a))), true, got)
	}
}

func TestInverseModulo(t *testing.T) {
	cases := []struct{ a, p, want int }{
		{-3, 7, 2}, {3, 7, 5}, {1, 2, 1}, {-1, 2, 1}, {3, 2, 1}, {2, 3, 2}, {-1, 9973, 9972}, {9972, 9973, 9972}, {2, 9973, 4987}, {1, 9973, 1},
		{10, 7, 5}, {-4, 7, 5}, {limit, 3, 1}, {-limit, 3, 2}, {limit, 7, 1}, {-limit, 7, 6}, {limit, 11, 3}, {-limit, 11, 8},
	}
	for _, c := range cases {
		if got, ok := impl.InverseModulo(c.a, c.p); got != c.want || !ok {
			t.Errorf("InverseModulo(%d, %d) = %d, %t, want %d, true", c.a, c.p, got, ok, c.want)
		}
	}
	check := func(a, p int) {
		t.Helper()
		got, ok := impl.InverseModulo(a, p)
		if residue(a, p) == 0 {
			if got != 0 || ok {
				t.Errorf("InverseModulo(%d, %d) = %d, %t, want 0, false", a, p, got, ok)
			}
		} else if !ok || got < 1 || got >= p || residue(residue(a, p)*got, p) != 1 {
			t.Errorf("InverseModulo(%d, %d) = %d, %t", a, p, got, ok)
		}
	}
	for p, isPrime := range sieve(maxPrime) {
		if !isPrime {
			continue
		}
		for _, a := range samples {
			check(a, p)
		}
		for _, a := range []int{p, -p, 2 * p, -3 * p, limit / p * p, -(limit / p * p), p - 1, p + 1, 1 - p, limit / p} {
			check(a, p)
		}
	}
	for _, p := range []int{2, 3, 5, 7, 11, 13, 97, 101, 9973} {
		for a := -2*p - 2; a <= 2*p+2; a++ {
			check(a, p)
		}
	}
}

func TestInverseModuloRefuses(t *testing.T) {
	refuse := func(a, p int) {
		t.Helper()
		if got, ok := impl.InverseModulo(a, p); got != 0 || ok {
			t.Errorf("InverseModulo(%d, %d) = %d, %t, want 0, false", a, p, got, ok)
		}
	}
	for _, p := range noPrimes {
		for _, a := range []int{0, 1, -1, 2, 3, 5, 7, 101, 9972, limit, limit + 1} {
			refuse(a, p)
		}
	}
	for _, p := range somePrimes {
		for _, a := range append(beyond, limit+2, -limit-2, limit+3, limit+p, math.MaxInt-1) {
			refuse(a, p)
		}
	}
}

func TestRankMod(t *testing.T) {
	checkRankMod(t, matrix(2, 2, 1, 2, 3, 4), 2, 1, true)
	checkRankMod(t, matrix(2, 2, 1, 2, 3, 4), 3, 2, true)
	checkRankMod(t, matrix(2, 2, 2, 4, 6, 8), 2, 0, true)
	checkRankMod(t, matrix(3, 3, 1, 2, 3, 4, 5, 6, 7, 8, 9), 5, 2, true)
	checkRankMod(t, matrix(3, 3, 1, 2, 3, 4, 5, 6, 7, 8, 9), 3, 1, true)
	checkRankMod(t, matrix(2, 4, 0, 0, 3, 1, 0, 0, 5, 2), 7, 2, true)
	checkRankMod(t, matrix(4, 2, 0, 0, 3, 1, 0, 0, 5, 2), 7, 2, true)
	checkRankMod(t, matrix(3, 2, 0, 0, 0, 0, 0, 4), 3, 1, true)
	// The rows differ by a multiple of the prime.
	checkRankMod(t, matrix(2, 2, 1, 2, 8, -5), 7, 1, true)
	for n := range maxSize + 1 {
		checkRankMod(t, matrix(n, 0), 2, 0, true)
		checkRankMod(t, matrix(0, n), 2, 0, true)
		checkRankMod(t, matrixOr(impl.IdentityMatrix(n)), 9973, n, true)
		checkRankMod(t, matrix(n, 3, make([]int, 3*n)...), 5, 0, true)
		// A diagonal whose numbers from 1 on have multiples of 3 among them.
		diagonal := built(n, n, func(row, col int) int { return max(1-max(row-col, col-row), 0) * (row + 1) })
		checkRankMod(t, diagonal, 3, n-n/3, true)
	}
	ranks := map[int]int{}
	for i, m := range append(oblongs(), greatSquares()...) {
		p := somePrimes[i%len(somePrimes)]
		for _, p := range []int{2, 3, p} {
			want := rankOver(m, p)
			checkRankMod(t, m, p, want, true)
			checkRankMod(t, residues(m, p), p, want, true)
			ranks[want]++
		}
		checkRankMod(t, matrixOr(impl.TransposeOf(m)), p, rankOver(m, p), true)
	}
	for rank := range 7 {
		if ranks[rank] < 30 {
			t.Errorf("only %d matrices have rank %d", ranks[rank], rank)
		}
	}
}

// sumsOf returns how many sums of multiples of its rows a matrix has over the residues: the prime to the power of its rank.
func sumsOf(m impl.Matrix, p int) int {
	sums := map[string]bool{string(make([]rune, m.Cols)): true}
	for row := range m.Rows {
		next := map[string]bool{}
		for sum := range sums {
			for times := range p {
				cells := []rune(sum)
				for col := range cells {
					cells[col] = rune(residue(int(cells[col])+times*m.Cells[row*m.Cols+col], p))
				}
				next[string(cells)] = true
			}
		}
		sums = next
	}
	return len(sums)
}

func TestRanksTellTheNumberOfSums(t *testing.T) {
	check := func(m impl.Matrix, p int) {
		t.Helper()
		rank, ok := impl.RankMod(m, p)
		want := 1
		for range rank {
			want *= p
		}
		if got := sumsOf(m, p); !ok || got != want {
			t.Errorf("RankMod(%v, %d) = %d, %t, but the rows have %d sums", m, p, rank, ok, got)
		}
	}
	for word := range 1 << 9 {
		check(spelled(3, word, []int{0, 1}), 2)
	}
	for word := range 3 * 3 * 3 * 3 {
		check(spelled(2, word, []int{0, 1, 5}), 3)
		check(spelled(2, word, []int{3, 7, -5}), 5)
	}
	for seed := range 60 {
		check(mixed(seed%4, seed%5, 30, seed), 3)
		check(mixed(seed%3, seed%4, limit, seed), 7)
		check(ofRank(4, 4, seed%4, 9, seed), 3)
	}
}

func TestDeterminantMod(t *testing.T) {
	checkDeterminantMod(t, matrix(2, 2, 1, 2, 3, 4), 5, 3, true)
	checkDeterminantMod(t, matrix(2, 2, 1, 2, 3, 4), 2, 0, true)
	checkDeterminantMod(t, matrix(0, 0), 2, 1, true)
	checkDeterminantMod(t, matrix(1, 1, 0), 7, 0, true)
	checkDeterminantMod(t, matrix(1, 1, -1), 7, 6, true)
	checkDeterminantMod(t, matrix(1, 1, limit), 9973, residue(limit, 9973), true)
	checkDeterminantMod(t, matrix(2, 2, 0, 1, 1, 0), 7, 6, true)
	checkDeterminantMod(t, matrix(2, 2, 0, 1, 1, 0), 2, 1, true)
	checkDeterminantMod(t, matrix(3, 3, 0, 1, 0, 0, 0, 1, 1, 0, 0), 7, 1, true)
	checkDeterminantMod(t, matrix(3, 3, 0, 0, 2, 0, 3, 0, 5, 0, 0), 101, 71, true)
	checkDeterminantMod(t, matrix(2, 2, limit, limit-1, limit-1, limit-2), 7, 6, true)
	for _, p := range somePrimes {
		for _, m := range squares() {
			checkDeterminantMod(t, m, p, bigResidue(trueDeterminant(m), p), true)
		}
	}
	zeros, others := 0, 0
	for i, m := range greatSquares() {
		determinant := bigDeterminant(m)
		for _, p := range []int{2, 3, somePrimes[i%len(somePrimes)]} {
			want := bigResidue(determinant, p)
			checkDeterminantMod(t, m, p, want, true)
			checkDeterminantMod(t, matrixOr(impl.TransposeOf(m)), p, want, true)
			if want == 0 {
				zeros++
			} else {
				others++
			}
		}
	}
	if zeros < 50 || others < 50 {
		t.Errorf("%d determinants are 0, and %d are not", zeros, others)
	}
	for rows := range maxSize + 1 {
		for cols := range maxSize + 1 {
			if rows != cols {
				checkDeterminantMod(t, mixed(rows, cols, 9, rows), 5, 0, false)
			}
		}
	}
}

func TestDeterminantsModMultiply(t *testing.T) {
	for n := range maxSize + 1 {
		for seed := range 4 {
			p := somePrimes[(n+seed)%len(somePrimes)]
			a, b := mixed(n, n, limit, seed), mixed(n, n, limit, seed+50)
			left, _ := impl.DeterminantMod(a, p)
			right, _ := impl.DeterminantMod(b, p)
			checkDeterminantMod(t, residueProduct(a, b, p), p, residue(left*right, p), true)
			if n >= 2 {
				swapped := matrixOr(impl.DoRowOp(a, swapRows(0, n-1)))
				checkDeterminantMod(t, swapped, p, residue(-left, p), true)
				negated := matrixOr(impl.DoRowOp(a, negateRow(n/2)))
				checkDeterminantMod(t, negated, p, residue(-left, p), true)
			}
		}
	}
}

func TestInverseMod(t *testing.T) {
	cases := []struct {
		m    impl.Matrix
		p    int
		want impl.Matrix
	}{
		{matrix(2, 2, 1, 2, 3, 4), 5, matrix(2, 2, 3, 1, 4, 2)},
		{matrix(0, 0), 2, matrix(0, 0)},
		{matrix(1, 1, 1), 2, matrix(1, 1, 1)},
		{matrix(1, 1, -3), 7, matrix(1, 1, 2)},
		{matrix(2, 2, 0, 1, 1, 0), 3, matrix(2, 2, 0, 1, 1, 0)},
		{matrix(2, 2, 1, 1, 0, 1), 2, matrix(2, 2, 1, 1, 0, 1)},
		{matrix(2, 2, 1, 1, 0, 1), 7, matrix(2, 2, 1, 6, 0, 1)},
		{matrix(3, 3, 0, 0, 1, 1, 0, 0, 0, 1, 0), 7, matrix(3, 3, 0, 1, 0, 0, 0, 1, 1, 0, 0)},
		{matrix(2, 2, 2, 0, 0, limit), 9973, matrix(2, 2, 4987, 0, 0, 6399)},
	}
	for _, c := range cases {
		got, ok := impl.InverseMod(c.m, c.p)
		checkMatrix(t, "an inverse", got, ok, c.want)
	}
	counts := map[bool]int{}
	for i, m := range append(squares(), greatSquares()...) {
		if m.Rows > inverseRows {
			continue
		}
		for _, p := range []int{2, 3, 7, somePrimes[i%len(somePrimes)]} {
			invertible := rankOver(m, p) == m.Rows
			counts[invertible]++
			if !invertible {
				checkNoInverseMod(t, "no inverse", m, p)
				continue
			}
			inverse := checkInverseMod(t, m, p)
			again, ok := impl.InverseMod(inverse, p)
			checkMatrix(t, "the inverse of an inverse", again, ok, residues(m, p))
		}
	}
	if counts[true] < 500 || counts[false] < 500 {
		t.Errorf("%d matrices have an inverse, and %d have none", counts[true], counts[false])
	}
}

func TestInverseModLimits(t *testing.T) {
	for n := range maxSize + 1 {
		one := matrixOr(impl.IdentityMatrix(n))
		unit := one
		if n >= 2 {
			unit = matrixOr(impl.DoRowOps(one, mixedOps(n, 9, n)))
		}
		b := mixed(n, 1, limit, n).Cells
		for _, p := range somePrimes {
			if n > inverseRows {
				checkNoInverseMod(t, "more rows than an inverse may have", one, p)
				checkNoInverseMod(t, "more rows than an inverse may have", unit, p)
				checkNoSolveMod(t, "more rows than an inverse may have", one, b, p)
				checkNoSolveMod(t, "more rows than an inverse may have", unit, b, p)
				checkDeterminantMod(t, one, p, 1, true)
				continue
			}
			got, ok := impl.InverseMod(one, p)
			checkMatrix(t, "the inverse of an identity matrix", got, ok, one)
			checkInverseMod(t, unit, p)
			checkSolveMod(t, one, b, p, residues(columnOf(b), p).Cells...)
		}
		for cols := range maxSize + 1 {
			if cols != n {
				checkNoInverseMod(t, "not as many rows as columns", mixed(n, cols, 5, n), 7)
				checkNoSolveMod(t, "not as many rows as columns", mixed(n, cols, 5, n), b, 7)
				checkNoSolveMod(t, "not as many rows as columns", matrix(n, cols, make([]int, n*cols)...), make([]int, n), 7)
			}
		}
	}
}

func TestSolveMod(t *testing.T) {
	m := matrix(2, 2, 1, 2, 3, 4)
	checkSolveMod(t, m, []int{5, 11}, 7, 1, 2)
	checkSolveMod(t, m, []int{5, 11}, 3, 1, 2)
	checkSolveMod(t, m, []int{0, 0}, 5, 0, 0)
	checkSolveMod(t, m, []int{7, -14}, 7, 0, 0)
	checkSolveMod(t, m, []int{-2, 4}, 7, 1, 2)
	checkSolveMod(t, matrix(0, 0), nil, 2)
	checkSolveMod(t, matrix(0, 0), []int{}, 9973)
	checkSolveMod(t, matrix(1, 1, 2), []int{1}, 9973, 4987)
	checkSolveMod(t, matrix(1, 1, -1), []int{limit}, 7, residue(-limit, 7))
	checkSolveMod(t, matrix(1, 1, 1), []int{-limit}, 9973, residue(-limit, 9973))
	checkSolveMod(t, matrix(2, 2, 0, 1, 1, 0), []int{3, 4}, 5, 4, 3)
	checkNoSolveMod(t, "no inverse", m, []int{5, 11}, 2)
	checkNoSolveMod(t, "no inverse, though there are solutions", m, []int{0, 0}, 2)
	checkNoSolveMod(t, "no inverse, though there are solutions", matrix(2, 2, 1, 0, 0, 7), []int{1, 7}, 7)
	checkNoSolveMod(t, "no inverse and no solution", matrix(2, 2, 1, 2, 2, 4), []int{1, 1}, 101)
	solved := 0
	for i, m := range append(squares(), greatSquares()...) {
		p := somePrimes[i%len(somePrimes)]
		b := mixed(m.Rows, 1, []int{3, 20000, limit}[i%3], i).Cells
		if m.Rows > inverseRows || rankOver(m, p) < m.Rows {
			checkNoSolveMod(t, "no inverse", m, b, p)
			continue
		}
		x, ok := impl.SolveMod(m, b, p)
		if !ok || !same(columnOf(x), residues(columnOf(x), p)) || !same(residueProduct(m, columnOf(x), p), residues(columnOf(b), p)) {
			t.Errorf("SolveMod(%v, %v, %d) = %v, %t, which is no solution", m, b, p, x, ok)
		}
		solved++
	}
	if solved < 500 {
		t.Errorf("only %d systems were solved", solved)
	}
}

// TestSumsBeyondTheLimit solves systems with so great residues that the sums of their products are no numbers.
func TestSumsBeyondTheLimit(t *testing.T) {
	for n := 1; n <= inverseRows; n++ {
		for _, p := range somePrimes {
			// Its own inverse: the first row is all -1.
			m := built(n, n, func(row, col int) int {
				if row == 0 {
					return -1
				}
				return max(1-max(row-col, col-row), 0)
			})
			b := slices.Repeat([]int{-1}, n)
			want := slices.Repeat([]int{p - 1}, n)
			want[0] = n % p
			checkSolveMod(t, m, b, p, want...)
			got, ok := impl.InverseMod(m, p)
			checkMatrix(t, "a matrix that is its own inverse", got, ok, residues(m, p))
			checkDeterminantMod(t, m, p, p-1, true)
		}
	}
}

func TestSolveModRefuses(t *testing.T) {
	one := matrixOr(impl.IdentityMatrix(3))
	for _, b := range [][]int{nil, {}, {1}, {1, 2}, {1, 2, 3, 4}, make([]int, maxSize), make([]int, maxSize+1)} {
		checkNoSolveMod(t, "a wrong count of numbers", one, b, 7)
	}
	checkNoSolveMod(t, "numbers without rows", matrix(0, 0), []int{0}, 7)
	checkNoSolveMod(t, "rows without columns", matrix(2, 0), []int{0, 0}, 7)
	checkNoSolveMod(t, "rows without columns or numbers", matrix(2, 0), nil, 7)
	checkNoSolveMod(t, "columns without rows", matrix(0, 2), nil, 7)
	for _, x := range append(beyond, 7*(1<<60), limit+2) {
		for place := range 3 {
			b := []int{1, 2, 3}
			b[place] = x
			checkNoSolveMod(t, "a number beyond the limit", one, b, 7)
		}
		checkNoSolveMod(t, "a number beyond the limit", matrix(1, 1, 1), []int{x}, 2)
		checkNoSolveMod(t, "numbers beyond the limit that are too many", one, []int{0, 0, 0, x}, 7)
	}
	checkSolveMod(t, one, []int{limit, -limit, 0}, 7, residue(limit, 7), residue(-limit, 7), 0)
}

// TestSolutionsAreTheOnlyOnes goes through all lists of residues.
func TestSolutionsAreTheOnlyOnes(t *testing.T) {
	counts := map[bool]int{}
	for k := range 700 {
		n, p := k%4, []int{2, 3, 5, 7}[k%7%4]
		m, b := mixed(n, n, 40, k), mixed(n, 1, 40, k+9000).Cells
		var solutions [][]int
		for word := range int(math.Pow(float64(p), float64(n))) {
			x := make([]int, n)
			for i := range x {
				x[i] = word % p
				word /= p
			}
			if same(residueProduct(m, columnOf(x), p), residues(columnOf(b), p)) {
				solutions = append(solutions, x)
			}
		}
		_, invertible := impl.InverseMod(m, p)
		counts[invertible]++
		switch {
		case invertible != (len(solutions) == 1):
			t.Errorf("InverseMod(%v, %d) returns %t, but the system with %v has %d solutions", m, p, invertible, b, len(solutions))
		case invertible:
			checkSolveMod(t, m, b, p, solutions[0]...)
		default:
			checkNoSolveMod(t, "none or many", m, b, p)
		}
	}
	if counts[true] < 200 || counts[false] < 100 {
		t.Errorf("%d matrices have an inverse, and %d have none", counts[true], counts[false])
	}
}

// TestMultiplesOfThePrime has what is not 0 and yet stands for 0.
func TestMultiplesOfThePrime(t *testing.T) {
	for _, p := range somePrimes {
		// One more is within the limit.
		great := (limit - 1) / p * p
		for _, zero := range []int{0, p, -p, 2 * p, -2 * p, p * p, -p * p, great, -great} {
			if got, ok := impl.InverseModulo(zero, p); got != 0 || ok {
				t.Errorf("InverseModulo(%d, %d) = %d, %t, want 0, false", zero, p, got, ok)
			}
			m := matrix(1, 1, zero)
			got, ok := impl.ReduceMod(m, p)
			checkMatrix(t, "a multiple of the prime", got, ok, matrix(1, 1, 0))
			checkRankMod(t, m, p, 0, true)
			checkDeterminantMod(t, m, p, 0, true)
			checkNoInverseMod(t, "a multiple of the prime", m, p)
			checkNoSolveMod(t, "a multiple of the prime", m, []int{1}, p)
			checkNoSolveMod(t, "a multiple of the prime", m, []int{zero}, p)
			checkSolveMod(t, matrix(1, 1, 1), []int{zero}, p, 0)
			// It is no pivot: the rows are swapped.
			m = matrix(2, 2, zero, 1, 1, zero)
			checkRankMod(t, m, p, 2, true)
			checkDeterminantMod(t, m, p, p-1, true)
			got, ok = impl.InverseMod(m, p)
			checkMatrix(t, "an inverse", got, ok, matrix(2, 2, 0, 1, 1, 0))
			checkSolveMod(t, m, []int{1, zero}, p, 0, 1)
			// It becomes one only in the second step, and the column has no pivot.
			m = matrix(3, 3, 1, 1, 1, 1, 1+zero, 0, 2, 2, 1)
			checkRankMod(t, m, p, 2, true)
			checkDeterminantMod(t, m, p, 0, true)
			checkNoInverseMod(t, "a column without a pivot", m, p)
			checkNoSolveMod(t, "a column without a pivot", m, []int{1, 1, 2}, p)
			checkRankMod(t, matrix(2, 3, zero, 1, 1, 0, zero, 1), p, 2, true)
			checkRankMod(t, matrix(2, 3, zero, 1, 1, -zero, 1, 1), p, 1, true)
		}
		m := built(4, 4, func(row, col int) int { return p * (row*col - 3) })
		checkRankMod(t, m, p, 0, true)
		checkDeterminantMod(t, m, p, 0, true)
		checkNoInverseMod(t, "multiples of the prime alone", m, p)
		// The determinant is a multiple of the prime, and no cell is.
		m = matrix(2, 2, 1, 1, 1, p+1)
		checkRankMod(t, m, p, 1, true)
		checkDeterminantMod(t, m, p, 0, true)
		checkNoInverseMod(t, "a determinant that is a multiple of the prime", m, p)
		checkNoSolveMod(t, "a determinant that is a multiple of the prime", m, []int{1, 1}, p)
	}
}

func TestResiduesAreImagesOfNumbers(t *testing.T) {
	determinants, inverses, less := 0, 0, 0
	for i, m := range append(oblongs(), units()...) {
		p := somePrimes[i%len(somePrimes)]
		for _, p := range []int{2, 3, p} {
			modulo, _ := impl.RankMod(m, p)
			if rank, ok := impl.RankOf(m); ok && modulo > rank {
				t.Errorf("RankMod(%v, %d) = %d, but RankOf is %d", m, p, modulo, rank)
			} else if ok && modulo < rank {
				less++
			}
			if determinant, ok := impl.DeterminantOf(m); ok {
				determinants++
				checkDeterminantMod(t, m, p, residue(determinant, p), true)
			}
			if inverse, ok := impl.InverseOf(m); ok {
				inverses++
				got, ok := impl.InverseMod(m, p)
				checkMatrix(t, "the image of an inverse", got, ok, residues(inverse, p))
			}
		}
	}
	if determinants < 500 || inverses < 300 || less < 200 {
		t.Errorf("there are %d determinants, %d inverses and %d ranks that become less", determinants, inverses, less)
	}
}

func TestResiduesAreImagesOfSolutions(t *testing.T) {
	solved := 0
	for k := range 900 {
		n, p := k%(inverseRows+1), somePrimes[k%len(somePrimes)]
		m, x := mixed(n, n, 900, k), mixed(n, 1, 900, k+7000)
		b := matrixOr(impl.MultiplyMatrices(m, x)).Cells
		if rankOver(m, p) < n {
			checkNoSolveMod(t, "no inverse", m, b, p)
			continue
		}
		solved++
		checkSolveMod(t, m, b, p, residues(x, p).Cells...)
		// The same by the quotients of determinants.
		c := mixed(n, 1, limit, k+8000).Cells
		whole, _ := impl.DeterminantMod(m, p)
		want := make([]int, n)
		for j := range want {
			replaced := built(n, n, func(row, col int) int {
				if col == j {
					return c[row]
				}
				return m.Cells[row*n+col]
			})
			determinant, _ := impl.DeterminantMod(replaced, p)
			inverse, _ := impl.InverseModulo(whole, p)
			want[j] = residue(determinant*inverse, p)
		}
		checkSolveMod(t, m, c, p, want...)
	}
	if solved < 500 {
		t.Errorf("only %d systems were solved", solved)
	}
}

// TestResiduesAloneMatter adds multiples of the prime to all cells.
func TestResiduesAloneMatter(t *testing.T) {
	for k := range 300 {
		rows, cols, p := k%9, k%9, somePrimes[k%len(somePrimes)]
		if k%3 == 0 {
			cols = k % 5
		}
		m, times := mixed(rows, cols, 50, k), mixed(rows, cols, limit/p-50, k+600)
		other := built(rows, cols, func(row, col int) int { return m.Cells[row*cols+col] + p*times.Cells[row*cols+col] })
		b := mixed(rows, 1, 50, k+700).Cells
		c := built(rows, 1, func(row, _ int) int { return b[row] - p*(row+k) }).Cells
		rank, fine := impl.RankMod(m, p)
		checkRankMod(t, other, p, rank, fine)
		determinant, fine := impl.DeterminantMod(m, p)
		checkDeterminantMod(t, other, p, determinant, fine)
		if inverse, ok := impl.InverseMod(m, p); ok {
			got, ok := impl.InverseMod(other, p)
			checkMatrix(t, "an inverse of the same residues", got, ok, inverse)
			x, _ := impl.SolveMod(m, b, p)
			checkSolveMod(t, other, c, p, x...)
		} else {
			checkNoInverseMod(t, "no inverse of the same residues", other, p)
			checkNoSolveMod(t, "no inverse of the same residues", other, c, p)
		}
	}
}

func TestResiduesRefuse(t *testing.T) {
	refuse := func(m impl.Matrix, b []int, p int) {
		t.Helper()
		got, ok := impl.ReduceMod(m, p)
		checkNoMatrix(t, "ReduceMod", got, ok)
		checkRankMod(t, m, p, 0, false)
		checkDeterminantMod(t, m, p, 0, false)
		checkNoInverseMod(t, "InverseMod", m, p)
		checkNoSolveMod(t, "refused", m, b, p)
	}
	for _, m := range append(noMatrices(), matrix(2, 2, limit+1, 0, 0, 1), matrix(1, 1, -limit-1), matrix(2, 2, 1, 0, 0, 1, 0), matrix(0, 0, 1)) {
		for _, p := range append(somePrimes, noPrimes...) {
			refuse(m, nil, p)
			refuse(m, []int{1}, p)
			refuse(m, []int{1, 2}, p)
		}
	}
	for _, p := range noPrimes {
		for n := range 5 {
			refuse(matrixOr(impl.IdentityMatrix(n)), make([]int, n), p)
			refuse(mixed(n, n, 9, n), make([]int, n), p)
		}
		refuse(matrix(2, 3, 1, 2, 3, 4, 5, 6), []int{1, 2}, p)
		refuse(matrix(0, 3), nil, p)
	}
}

func TestResiduesShareNoMemory(t *testing.T) {
	for i, arg := range append(squares(), matrix(2, 3, 1, 2, 3, 4, 5, 6), mixed(12, 12, limit, 3), mixed(24, 24, limit, 4), mixed(0, 5, 1, 1)) {
		if i%5 != 0 && arg.Rows <= maxMinor {
			continue
		}
		m, whole := spare(arg)
		wholeOfB := append(mixed(arg.Rows, 1, limit, i).Cells, 71, 72, 73, 74)
		b := wholeOfB[:arg.Rows]
		kept, keptB := slices.Clone(whole), slices.Clone(wholeOfB)
		p := somePrimes[i%len(somePrimes)]
		check := func(result []int) {
			t.Helper()
			result = result[:cap(result)]
			for place := range result {
				result[place] = -99
			}
			if !slices.Equal(whole, kept) || !slices.Equal(wholeOfB, keptB) {
				t.Fatalf("an argument of %v, %v was changed, or its memory is that of a result", arg, b)
			}
		}
		var before, beforeX []int
		for range 2 {
			reduced, _ := impl.ReduceMod(m, p)
			check(reduced.Cells)
			// Residues already stay, but not in the same memory.
			again, _ := impl.ReduceMod(m, 9973)
			check(again.Cells)
			impl.RankMod(m, p)
			impl.DeterminantMod(m, p)
			inverse, _ := impl.InverseMod(m, p)
			if cells := slices.Clone(inverse.Cells); before != nil && !slices.Equal(cells, before) {
				t.Errorf("InverseMod(%v, %d) is not the same once more", arg, p)
			} else {
				before = cells
			}
			check(inverse.Cells)
			x, _ := impl.SolveMod(m, b, p)
			if cells := slices.Clone(x); beforeX != nil && !slices.Equal(cells, beforeX) {
				t.Errorf("SolveMod(%v, %v, %d) is not the same once more", arg, b, p)
			} else {
				beforeX = cells
			}
			check(x)
		}
	}
}
