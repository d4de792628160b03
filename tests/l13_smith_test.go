package tests

import (
	"math"
	"math/big"
	"slices"
	"testing"

	"loop.example/g03411/impl"
)

// sided is a matrix to whose rows and columns operations are done, with what they make of identity matrices.
// It stops at the first cell, or multiple of one, that is beyond the limit, and keeps the name of its matrix.
type sided struct {
	d, u, v impl.Matrix
	beyond  string
}

func flipped(m impl.Matrix) impl.Matrix {
	return built(m.Cols, m.Rows, func(row, col int) int { return m.Cells[col*m.Cols+row] })
}

// identity knows no limit of sizes.
func identity(n int) impl.Matrix {
	return diagonal(n, n, slices.Repeat([]int{1}, n)...)
}

// diagonal returns a matrix with some numbers from its first cell down, and 0 elsewhere.
func diagonal(rows, cols int, numbers ...int) impl.Matrix {
	return built(rows, cols, func(row, col int) int {
		if row == col && row < len(numbers) {
			return numbers[row]
		}
		return 0
	})
}

func (x *sided) change(name string, m *impl.Matrix, op impl.RowOp, onColumns bool) {
	if x.beyond != "" {
		return
	}
	turn := func(m impl.Matrix) impl.Matrix { return m }
	if onColumns {
		turn = flipped
	}
	done, within := afterOp(turn(*m), op)
	if !within || slices.ContainsFunc(done.Cells, func(cell int) bool { return cell < -limit || cell > limit }) {
		x.beyond = name
		return
	}
	*m = turn(done)
}

func (x *sided) doRow(op impl.RowOp) {
	x.change("d", &x.d, op, false)
	x.change("u", &x.u, op, false)
}

func (x *sided) doColumn(op impl.RowOp) {
	x.change("d", &x.d, op, true)
	x.change("v", &x.v, op, true)
}

func (x *sided) cell(row, col int) int { return x.d.Cells[row*x.d.Cols+col] }

// filled lists the places with something among the rows and columns from some of them on.
func (x *sided) filled(row, col int) [][2]int {
	l := [][2]int{}
	for i := row; i < x.d.Rows; i++ {
		for j := col; j < x.d.Cols; j++ {
			if x.cell(i, j) != 0 {
				l = append(l, [2]int{i, j})
			}
		}
	}
	return l
}

// round makes one round, and tells whether another one follows.
func (x *sided) round(t int) bool {
	size := func(at [2]int) int { return max(x.cell(at[0], at[1]), -x.cell(at[0], at[1])) }
	// The first of those that are least.
	least := slices.MinFunc(x.filled(t, t), func(a, b [2]int) int { return size(a) - size(b) })
	if least[0] != t {
		x.doRow(swapRows(least[0], t))
	}
	if least[1] != t {
		x.doColumn(swapRows(least[1], t))
	}
	for i := t + 1; i < x.d.Rows; i++ {
		if x.cell(i, t) != 0 {
			x.doRow(addRow(i, t, -floored(x.cell(i, t), x.cell(t, t))))
		}
	}
	for j := t + 1; j < x.d.Cols; j++ {
		if x.cell(t, j) != 0 {
			x.doColumn(addRow(j, t, -floored(x.cell(t, j), x.cell(t, t))))
		}
	}
	rest := x.filled(t, t)
	if slices.ContainsFunc(rest, func(at [2]int) bool { return (at[0] == t) != (at[1] == t) }) {
		return true
	}
	for _, at := range rest {
		if x.cell(at[0], at[1])%x.cell(t, t) != 0 {
			x.doRow(addRow(t, at[0], 1))
			return true
		}
	}
	return false
}

// smithByWords does to a valid matrix what SmithForm is to do, sentence by sentence.
func smithByWords(m impl.Matrix) *sided {
	x := &sided{d: m, u: identity(m.Rows), v: identity(m.Cols)}
	for t := 0; x.beyond == "" && len(x.filled(t, t)) > 0; t++ {
		for x.beyond == "" && x.round(t) {
		}
		if x.cell(t, t) < 0 {
			x.doRow(negateRow(t))
		}
	}
	return x
}

// factorsByTurns finds the factors by another road that knows no limits: the basis of the rows is found, then that of its columns,
// and so on until a diagonal is left. Of each two numbers the greatest common divisor comes first.
func factorsByTurns(m impl.Matrix) []*big.Int {
	rows, cols := bigRows(m), m.Cols
	for {
		rows = basisOfSums(rows, cols)
		if len(rows) == cols && isDiagonal(rows) {
			break
		}
		turned := make([][]*big.Int, cols)
		for col := range cols {
			for _, row := range rows {
				turned[col] = append(turned[col], row[col])
			}
		}
		rows, cols = turned, len(rows)
	}
	factors := []*big.Int{}
	for i, row := range rows {
		factors = append(factors, row[i])
	}
	for i := range factors {
		for j := i + 1; j < len(factors); j++ {
			product := new(big.Int).Mul(factors[i], factors[j])
			factors[i] = new(big.Int).GCD(nil, nil, factors[i], factors[j])
			factors[j] = product.Quo(product, factors[i])
		}
	}
	return factors
}

func isDiagonal(rows [][]*big.Int) bool {
	for i, row := range rows {
		for j, cell := range row {
			if i != j && cell.Sign() != 0 {
				return false
			}
		}
	}
	return true
}

// isSmithForm tells whether a valid matrix is in Smith form, by each of the conditions of the document alone.
func isSmithForm(m impl.Matrix) bool {
	for place, cell := range m.Cells {
		row, col := place/m.Cols, place%m.Cols
		if row != col && cell != 0 || cell < 0 {
			return false
		}
		if row != col || row == 0 {
			continue
		}
		before := m.Cells[(row-1)*m.Cols+col-1]
		if before == 0 && cell != 0 || before != 0 && cell/before*before != cell {
			return false
		}
	}
	return true
}

// minorDivisor returns what MinorGcd is to return for a valid matrix of at most six rows and columns, and a count that it has.
func minorDivisor(m impl.Matrix, k int) (int, bool) {
	divisor := 0
	for _, rows := range choicesOf(m.Rows) {
		for _, cols := range choicesOf(m.Cols) {
			if len(rows) != k || len(cols) != k {
				continue
			}
			determinant, ok := expanded(built(k, k, func(row, col int) int { return m.Cells[rows[row]*m.Cols+cols[col]] }))
			if !ok {
				return 0, false
			}
			divisor = commonDivisor(divisor, determinant)
		}
	}
	return divisor, true
}

func withoutZero(l []int) []int {
	return slices.DeleteFunc(slices.Clone(l), func(n int) bool { return n == 0 })
}

func diagonalCells(m impl.Matrix) []int {
	l := []int{}
	for t := range min(m.Rows, m.Cols) {
		l = append(l, m.Cells[t*m.Cols+t])
	}
	return l
}

func checkSmith(t *testing.T, name string, m, d, u, v impl.Matrix) {
	t.Helper()
	gotD, gotU, gotV, ok := impl.SmithForm(m)
	if !ok || !same(gotD, d) || !same(gotU, u) || !same(gotV, v) {
		t.Errorf("%s: SmithForm(%v) = %v, %v, %v, %t, want %v, %v, %v, true", name, m, gotD, gotU, gotV, ok, d, u, v)
	}
	checkFactors(t, name, m, withoutZero(diagonalCells(d)), true)
}

func checkNoSmith(t *testing.T, name string, m impl.Matrix) {
	t.Helper()
	d, u, v, ok := impl.SmithForm(m)
	if ok || !same(d, impl.Matrix{}) || !same(u, impl.Matrix{}) || !same(v, impl.Matrix{}) {
		t.Errorf("%s: SmithForm(%v) = %v, %v, %v, %t, want zero matrices and false", name, m, d, u, v, ok)
	}
	checkFactors(t, name, m, nil, false)
}

func checkFactors(t *testing.T, name string, m impl.Matrix, want []int, fine bool) {
	t.Helper()
	got, ok := impl.FactorsOf(m)
	if ok != fine || !slices.Equal(got, want) {
		t.Errorf("%s: FactorsOf(%v) = %v, %t, want %v, %t", name, m, got, ok, want, fine)
	}
}

func checkMinor(t *testing.T, m impl.Matrix, k, want int, fine bool) {
	t.Helper()
	if got, ok := impl.MinorGcd(m, k); got != want || ok != fine {
		t.Errorf("MinorGcd(%v, %d) = %d, %t, want %d, %t", m, k, got, ok, want, fine)
	}
}

// checkSmithWay compares with the steps of the document, and returns the name of the matrix beyond the limit, if there is one.
func checkSmithWay(t *testing.T, m impl.Matrix) string {
	t.Helper()
	x := smithByWords(m)
	if x.beyond == "" {
		checkSmith(t, "by words", m, x.d, x.u, x.v)
	} else {
		checkNoSmith(t, "by words", m)
	}
	return x.beyond
}

func TestSmithForm(t *testing.T) {
	one := matrix(1, 1, 1)
	checkSmith(t, "two rows", matrix(2, 2, 2, 4, 6, 8), diagonal(2, 2, 2, 4), matrix(2, 2, 1, 0, 3, -1), matrix(2, 2, 1, -2, 0, 1))
	checkSmith(t, "one cell", matrix(1, 1, 5), matrix(1, 1, 5), one, one)
	// The row is negated, not the column.
	checkSmith(t, "a negative cell", matrix(1, 1, -5), matrix(1, 1, 5), matrix(1, 1, -1), one)
	checkSmith(t, "two negative cells", diagonal(2, 2, -1, -1), identity(2), diagonal(2, 2, -1, -1), identity(2))
	checkSmith(t, "a zero", matrix(1, 1, 0), matrix(1, 1, 0), one, one)
	checkSmith(t, "columns swapped", matrix(1, 2, 0, -3), matrix(1, 2, 3, 0), matrix(1, 1, -1), matrix(2, 2, 0, 1, 1, 0))
	checkSmith(t, "rows swapped", matrix(2, 1, 0, -3), matrix(2, 1, 3, 0), matrix(2, 2, 0, -1, 1, 0), one)
	checkSmith(t, "both swapped", diagonal(2, 2, 0, -3), diagonal(2, 2, 3), matrix(2, 2, 0, -1, 1, 0), matrix(2, 2, 0, 1, 1, 0))
	// Of cells that are equally near to 0 the first one by rows is taken.
	checkSmith(t, "the same size everywhere", matrix(2, 2, 3, -3, 3, 3), diagonal(2, 2, 3, 6), matrix(2, 2, 1, 0, -1, 1), matrix(2, 2, 1, 1, 0, 1))
	checkSmith(t, "two least cells", matrix(2, 2, 4, -2, 2, 4), diagonal(2, 2, 2, 10), matrix(2, 2, -1, 0, 2, 1), matrix(2, 2, 0, 1, 1, 2))
	checkSmith(t, "one row", matrix(1, 3, 6, 10, 15), matrix(1, 3, 1, 0, 0), one, matrix(3, 3, 1, -5, 5, 1, -3, 0, -1, 4, -2))
	checkSmith(t, "one column", matrix(3, 1, 6, 10, 15), matrix(3, 1, 1, 0, 0), matrix(3, 3, 1, 1, -1, -5, -3, 4, 5, 0, -2), one)
	// Remainders are at least 0, also those by a negative cell.
	checkSmith(t, "a negative divisor", matrix(1, 2, 5, -3), matrix(1, 2, 1, 0), one, matrix(2, 2, 2, -3, 3, -5))
	checkSmith(t, "a negative cell to divide", matrix(1, 2, -5, 3), matrix(1, 2, 1, 0), one, matrix(2, 2, 1, -3, 2, -5))
	checkSmith(t, "rows first", matrix(2, 2, 2, 3, 3, 2), diagonal(2, 2, 1, 5), matrix(2, 2, 1, 0, 1, 1), matrix(2, 2, -1, 3, 1, -2))
	// What follows may be nearer to 0 than the pivot, and is found only after the pivot is alone.
	checkSmith(t, "a least cell made late", matrix(3, 3, 3, 3, 3, 3, 3, 3, 3, 3, 4), diagonal(3, 3, 1, 3),
		matrix(3, 3, 0, 0, 1, 1, 0, 0, -1, 1, 0), matrix(3, 3, -1, 4, -1, 0, 0, 1, 1, -3, 0))
	checkSmith(t, "no rows", matrix(0, 3), matrix(0, 3), impl.Matrix{}, identity(3))
	checkSmith(t, "no columns", matrix(3, 0), matrix(3, 0), identity(3), impl.Matrix{})
	checkSmith(t, "nothing", impl.Matrix{}, impl.Matrix{}, impl.Matrix{}, impl.Matrix{})
	checkSmith(t, "only zeros", diagonal(2, 3), diagonal(2, 3), identity(2), identity(3))
	for _, m := range []impl.Matrix{diagonal(maxSize, maxSize), identity(maxSize), diagonal(maxSize, 7, 2, 2, 6, 0, 0), diagonal(3, maxSize, limit)} {
		checkSmith(t, "a form already", m, m, identity(m.Rows), identity(m.Cols))
	}
}

func TestDiagonalThatDoesNotDivide(t *testing.T) {
	u, v := matrix(2, 2, 1, 1, 3, 2), matrix(2, 2, -1, 3, 1, -2)
	checkSmith(t, "primes", diagonal(2, 2, 2, 3), diagonal(2, 2, 1, 6), u, v)
	checkSmith(t, "a common divisor", diagonal(2, 2, 4, 6), diagonal(2, 2, 2, 12), u, v)
	checkSmith(t, "the greater one first", diagonal(2, 2, 6, 4), diagonal(2, 2, 2, 12), matrix(2, 2, 1, 1, 2, 3), matrix(2, 2, 1, -2, -1, 3))
	checkSmith(t, "the last one", diagonal(3, 3, 2, 4, 6), diagonal(3, 3, 2, 2, 12), matrix(3, 3, 1, 0, 0, 0, 1, 1, 0, 3, 2), matrix(3, 3, 1, 0, 0, 0, -1, 3, 0, 1, -2))
	checkSmith(t, "three primes", diagonal(3, 3, 2, 3, 5), diagonal(3, 3, 1, 1, 30),
		matrix(3, 3, 1, 1, 0, -3, -2, 1, -15, -10, 6), matrix(3, 3, -1, -3, 15, 1, 2, -10, 0, -1, 6))
	// All of them are divisors of 60.
	numbers := []int{1, -2, 3, 4, 5, -6, 10, 12, 15, 20, 30, 60}
	for word := range 12 * 12 * 12 {
		a, b, c := numbers[word%12], numbers[word/12%12], numbers[word/144]
		m := diagonal(3, 3+word%2, a, b, c)
		want := []int{1, 1, 1}
		for _, powers := range [][]int{{2, 4}, {3}, {5}} {
			for place := range want {
				// The power of a prime in a factor is the one at its place among those of the diagonal in order.
				for _, power := range powers {
					if count(power, a, b, c) >= 3-place {
						want[place] *= powers[0]
					}
				}
			}
		}
		checkFactors(t, "divisors of 60", m, want, true)
		if slices.Equal([]int{a, b, c}, want) != impl.IsSmith(m) {
			t.Errorf("IsSmith(%v) = %t", m, impl.IsSmith(m))
		}
	}
}

// count tells how many of the numbers are multiples of a divisor.
func count(divisor int, numbers ...int) int {
	n := 0
	for _, x := range numbers {
		if x%divisor == 0 {
			n++
		}
	}
	return n
}

func TestSmithFollowsItsWay(t *testing.T) {
	counts := map[string]int{}
	check := func(m impl.Matrix) {
		t.Helper()
		counts[checkSmithWay(t, m)]++
	}
	for _, m := range oblongs() {
		check(m)
	}
	for word := range 6 * 6 * 6 * 6 {
		check(spelled(2, word, []int{0, 1, -2, 6, -9, 15}))
		check(spelled(2, word, []int{0, 1, 20000, 20001, -19999, limit}))
		check(matrix(1, 4, spelled(2, word, []int{0, 4, -6, 9, 25, limit}).Cells...))
	}
	for word := range 3 * 3 * 3 * 3 * 3 * 3 * 3 * 3 * 3 {
		check(spelled(3, word, []int{0, 2, -3}))
		check(spelled(3, word, []int{0, 6, 10}))
		if word%5 == 0 {
			check(spelled(3, word, []int{0, 700, 701}))
			check(spelled(3, word, []int{1, 30, -20001}))
		}
	}
	for word := range 9 * 9 * 9 {
		numbers := []int{0, 1, -1, 4, -6, 15, 21, limit, 1 - limit}
		check(matrix(3, 1, numbers[word%9], numbers[word/9%9], numbers[word/81]))
		check(diagonal(3, 3, numbers[word%9], numbers[word/9%9], numbers[word/81]))
	}
	if counts[""] < 5000 || counts["d"] < 500 || counts["u"] < 50 || counts["v"] < 50 {
		t.Errorf("matrices beyond the limit: %v", counts)
	}
}

func TestSmithFormsComeWithTheirMatrices(t *testing.T) {
	for _, m := range slices.Concat(oblongs(), units()) {
		d, u, v, ok := impl.SmithForm(m)
		if !ok {
			continue
		}
		if !isSmithForm(d) || !impl.IsSmith(d) || d.Rows != m.Rows || d.Cols != m.Cols {
			t.Errorf("SmithForm(%v) = %v, which is no Smith form", m, d)
		}
		// Sums of products on the way may be beyond the limit.
		product, fits := smallRows(bigProduct(bigProduct(bigRows(u), bigRows(m), m.Cols), bigRows(v), m.Cols), m.Cols)
		if !fits || !same(product, d) {
			t.Errorf("SmithForm(%v) = %v, %v, %v, and the product is %v", m, d, u, v, product)
		}
		if product, ok := impl.MultiplyMatrices(u, m); ok {
			product, ok = impl.MultiplyMatrices(product, v)
			checkMatrix(t, "the product", product, ok, d)
		}
		for _, account := range []impl.Matrix{u, v} {
			if determinant := bigDeterminant(account); determinant.CmpAbs(big.NewInt(1)) != 0 {
				t.Errorf("SmithForm(%v) makes %v, with the determinant %v", m, account, determinant)
			}
			if _, expands := impl.DeterminantOf(account); expands && !impl.IsUnimodular(account) {
				t.Errorf("IsUnimodular(%v) = false", account)
			}
		}
		checkSmith(t, "the form of a form", d, d, identity(m.Rows), identity(m.Cols))
	}
}

// bigProduct knows no limits. The count of the columns of b is told, as there may be no row of it.
func bigProduct(a, b [][]*big.Int, cols int) [][]*big.Int {
	product := make([][]*big.Int, len(a))
	for i, row := range a {
		product[i] = make([]*big.Int, cols)
		for j := range cols {
			product[i][j] = new(big.Int)
			for k, x := range row {
				product[i][j].Add(product[i][j], new(big.Int).Mul(x, b[k][j]))
			}
		}
	}
	return product
}

func TestNoChangeOfBasesChangesSmithForms(t *testing.T) {
	made, changed := 0, 0
	for i, m := range oblongs() {
		d, _, _, ok := impl.SmithForm(m)
		if !ok {
			continue
		}
		made++
		factors := []int{}
		for _, factor := range factorsByTurns(m) {
			factors = append(factors, int(factor.Int64()))
		}
		checkFactors(t, "by turns", m, factors, true)
		others := []impl.Matrix{flipped(m)}
		add := func(other impl.Matrix, ok bool) {
			if ok {
				others = append(others, other)
			}
		}
		add(impl.ScaleMatrix(m, -1))
		for seed := range 3 {
			if m.Rows >= 2 {
				add(impl.DoRowOps(m, mixedOps(m.Rows, 4+seed, i+seed)))
			}
			if m.Cols >= 2 {
				last := others[len(others)-1]
				if last.Rows != m.Cols {
					last = flipped(last)
				}
				add(impl.DoRowOps(last, mixedOps(m.Cols, 4+seed, i+seed+1)))
			}
		}
		for _, other := range others {
			got, _, _, ok := impl.SmithForm(other)
			if !ok {
				continue
			}
			changed++
			// The rows of some are the columns of the others.
			if want := diagonal(other.Rows, other.Cols, diagonalCells(d)...); !same(got, want) {
				t.Errorf("the form of %v is %v, and in another basis, as %v, it is %v", m, d, other, got)
			}
		}
	}
	if made < 500 || changed < 2000 {
		t.Errorf("%d forms were made, and %d were compared", made, changed)
	}
}

func TestSmithLimits(t *testing.T) {
	one := matrix(1, 1, 1)
	checkSmith(t, "a cell at the limit", matrix(1, 1, limit), matrix(1, 1, limit), one, one)
	checkSmith(t, "a cell at the lower limit", matrix(1, 1, -limit), matrix(1, 1, limit), matrix(1, 1, -1), one)
	checkSmith(t, "cells at the limits", diagonal(2, 2, limit, -limit), diagonal(2, 2, limit, limit), diagonal(2, 2, 1, -1), identity(2))
	checkNoSmith(t, "factors beyond the limit", diagonal(2, 2, limit, limit-1))
	checkSmith(t, "a factor at the limit", matrix(2, 2, 1, 20000, 20000, 0), diagonal(2, 2, 1, limit), matrix(2, 2, 1, 0, 20000, -1), matrix(2, 2, 1, -20000, 0, 1))
	checkNoSmith(t, "a factor beyond the limit", matrix(2, 2, 1, 20001, 20000, 0))
	checkNoSmith(t, "the same turned", matrix(2, 2, 1, 20000, 20001, 0))
	// What is added is held to the limit, too.
	checkNoSmith(t, "a multiple beyond the limit that would bring a cell within it", matrix(2, 2, 1, 20001, 20001, 40001))
	checkSmith(t, "a multiple at the limit", matrix(2, 2, 1, 200000000, 2, limit), diagonal(2, 2, 1, 0), matrix(2, 2, 1, 0, -2, 1), matrix(2, 2, 1, -200000000, 0, 1))
	checkNoSmith(t, "another multiple beyond the limit", matrix(2, 2, 1, 200000001, 2, limit))
	checkSmith(t, "a column as many times as the limit", matrix(1, 2, 1, limit), matrix(1, 2, 1, 0), one, matrix(2, 2, 1, -limit, 0, 1))
	checkSmith(t, "a row as many times as the lower limit", matrix(2, 1, 1, -limit), matrix(2, 1, 1, 0), matrix(2, 2, 1, 0, limit, 1), one)
	checkSmith(t, "two great cells", matrix(1, 2, limit, limit-1), matrix(1, 2, 1, 0), one, matrix(2, 2, 1, 1-limit, -1, limit))
	// The row that is added, once the pivot is alone, is 0 where the pivot is, but not in u.
	checkNoSmith(t, "an added row beyond the limit", matrix(3, 3, 1, 0, 0, 200000001, 2, 0, 200000000, 0, 3))
	// The form of these is the identity matrix, so the cells of u alone, or of v alone, are beyond the limit.
	account := matrix(3, 3, 1, 0, 0, -20000, 1, 0, limit, -20000, 1)
	m := matrix(3, 3, 1, 0, 0, 20000, 1, 0, 0, 20000, 1)
	checkSmith(t, "a cell of u at the limit", m, identity(3), account, identity(3))
	checkSmith(t, "a cell of v at the limit", flipped(m), identity(3), identity(3), flipped(account))
	m.Cells[3]++
	checkNoSmith(t, "a cell of u beyond the limit", m)
	checkNoSmith(t, "a cell of v beyond the limit", flipped(m))
}

func TestSmithRefuses(t *testing.T) {
	for _, m := range noMatrices() {
		checkNoSmith(t, "no matrix", m)
		if impl.IsSmith(m) {
			t.Errorf("IsSmith(%v) = true", m)
		}
		for _, k := range []int{-1, 0, 1, 2} {
			checkMinor(t, m, k, 0, false)
		}
	}
	for _, m := range []impl.Matrix{matrix(1, 1, limit+1), matrix(1, 2, 1, -limit-1), diagonal(2, 2, 1, limit+1), matrix(2, 2, 1, 0, 0)} {
		checkNoSmith(t, "no matrix", m)
		checkMinor(t, m, 0, 0, false)
		if impl.IsSmith(m) {
			t.Errorf("IsSmith(%v) = true", m)
		}
	}
}

func TestIsSmith(t *testing.T) {
	forms := []impl.Matrix{
		{}, matrix(0, 3), matrix(3, 0), matrix(1, 1, 0), matrix(1, 1, 1), matrix(1, 1, limit), matrix(1, 2, 5, 0), matrix(2, 1, 5, 0),
		diagonal(2, 2, 2, 0), diagonal(2, 2, 2, 2), diagonal(2, 2, 2, 4), diagonal(2, 3, 1, limit), diagonal(3, 2, 3, 9), diagonal(3, 3, 1, 0, 0),
		diagonal(4, 4, 1, 2, 6, 0), diagonal(maxSize, maxSize), identity(maxSize), diagonal(maxSize, 2, 7), diagonal(2, maxSize, 7),
	}
	refused := map[string]impl.Matrix{
		"a sign": matrix(1, 1, -1), "a sign in the last place": diagonal(2, 2, 1, -1), "a sign after the same number": diagonal(2, 2, 2, -2), "two signs": diagonal(2, 2, -2, -2),
		"a zero before a number": diagonal(2, 2, 0, 2), "a zero before a one": diagonal(2, 2, 0, 1), "a zero in between": diagonal(3, 3, 1, 0, 1),
		"no divisor": diagonal(2, 2, 2, 3), "a multiple first": diagonal(2, 2, 4, 2), "no divisor of the last one": diagonal(3, 3, 1, 2, 3),
		"something on the right": matrix(1, 2, 1, 1), "something below": matrix(2, 1, 1, 1), "something above": matrix(2, 2, 1, 1, 0, 1),
		"something below and left": matrix(2, 2, 1, 0, -1, 1), "something behind the diagonal": matrix(2, 3, 1, 0, 0, 0, 1, 1), "something under it": matrix(3, 2, 1, 0, 0, 1, 0, 1),
		"nothing but that": matrix(1, 2, 0, 1), "nothing but that below": matrix(2, 1, 0, 1),
	}
	checkForms(t, "IsSmith", impl.IsSmith, forms, refused)
}

func TestSmithFormsAreWhatStays(t *testing.T) {
	diagonals := []impl.Matrix{}
	for word := range 7 * 7 * 7 {
		diagonals = append(diagonals, diagonal(3+word%2, 3, word%7-1, word/7%7-1, word/49-1))
	}
	checkStays(t, "IsSmith", impl.IsSmith, isSmithForm, func(m impl.Matrix) (impl.Matrix, bool, bool) {
		d, u, v, ok := impl.SmithForm(m)
		return d, same(d, m) && same(u, identity(m.Rows)) && same(v, identity(m.Cols)), ok
	}, diagonals...)
}

func TestFactorsOf(t *testing.T) {
	checkFactors(t, "a column of zeros", matrix(2, 3, 0, 0, 0, 4, 6, 0), []int{2}, true)
	checkFactors(t, "zeros", diagonal(3, 3), nil, true)
	checkFactors(t, "nothing", impl.Matrix{}, nil, true)
	checkFactors(t, "no rows", matrix(0, 4), nil, true)
	checkFactors(t, "no columns", matrix(4, 0), nil, true)
	checkFactors(t, "the identity matrix", identity(maxSize), slices.Repeat([]int{1}, maxSize), true)
	checkFactors(t, "two numbers", diagonal(2, 2, 3, 6), []int{3, 6}, true)
	checkFactors(t, "a zero first", diagonal(3, 3, 0, 10, 4), []int{2, 20}, true)
	checkFactors(t, "rows that depend on each other", matrix(3, 3, 1, 2, 3, 4, 5, 6, 7, 8, 9), []int{1, 3}, true)
	checkFactors(t, "no form", matrix(2, 2, 1, 20001, 20000, 0), nil, false)
}

func TestMinorGcd(t *testing.T) {
	m := matrix(2, 2, 2, 4, 6, 8)
	checkMinor(t, m, 0, 1, true)
	checkMinor(t, m, 1, 2, true)
	checkMinor(t, m, 2, 8, true)
	for _, k := range append([]int{-1, -2, 3, 4, 6, 7, 64, 1 << 32, math.MaxInt, math.MinInt}, beyond...) {
		checkMinor(t, m, k, 0, false)
	}
	for _, m := range []impl.Matrix{{}, matrix(0, maxMinor), matrix(maxMinor, 0), diagonal(1, maxMinor), diagonal(maxMinor, 1)} {
		checkMinor(t, m, 0, 1, true)
		checkMinor(t, m, -1, 0, false)
		checkMinor(t, m, min(m.Rows, m.Cols)+1, 0, false)
		checkMinor(t, m, max(m.Rows, m.Cols, 1), 0, false)
	}
	checkMinor(t, diagonal(2, 3), 1, 0, true)
	checkMinor(t, diagonal(2, 3), 2, 0, true)
	checkMinor(t, matrix(1, 1, -7), 1, 7, true)
	checkMinor(t, matrix(1, 3, 0, -6, 4), 1, 2, true)
	checkMinor(t, diagonal(3, 3, 6, 10, 15), 2, 30, true)
	checkMinor(t, diagonal(maxMinor, maxMinor, 2, 2, 2, 2, 2, 2), maxMinor, 64, true)
	checkMinor(t, diagonal(maxMinor, 5, 2, 2, 2, 2, 2), 5, 32, true)
	// Too many rows or columns are refused even where no determinant is made.
	for n := maxMinor + 1; n <= maxSize; n++ {
		for _, m := range []impl.Matrix{diagonal(n, 1), diagonal(1, n), identity(n), matrix(0, n), matrix(n, 0)} {
			checkMinor(t, m, 0, 0, false)
			checkMinor(t, m, 1, 0, false)
		}
	}
}

func TestMinorGcdLimits(t *testing.T) {
	checkMinor(t, matrix(1, 2, limit, -limit), 1, limit, true)
	checkMinor(t, diagonal(2, 2, 20000, -20000), 2, limit, true)
	checkMinor(t, diagonal(2, 2, 20001, 20000), 2, 0, false)
	checkMinor(t, diagonal(2, 2, 20001, 20000), 1, 1, true)
	// The divisor is 1 before the last determinant is found to be beyond the limit.
	checkMinor(t, matrix(2, 3, 1, 0, limit, 0, 1, limit), 2, 1, true)
	checkMinor(t, matrix(2, 3, 1, 0, limit, 0, 2, 1), 2, 0, false)
	checkMinor(t, matrix(3, 2, 1, 0, 0, 1, limit, 2), 2, 1, true)
	checkMinor(t, matrix(3, 3, 1, 0, 0, 0, 1, 0, 0, 0, limit), 3, limit, true)
	// The determinant is 0, but it is expanded by one that is beyond the limit.
	checkMinor(t, matrix(3, 3, 1, 1, 1, 20001, 0, 0, 0, 20001, 20001), 3, 0, false)
	checkMinor(t, matrix(3, 3, 0, 0, 0, 20001, 0, 0, 0, 20001, 20001), 3, 0, true)
}

func TestMinorGcdTakesAllDeterminants(t *testing.T) {
	counts := map[bool]int{}
	for i, m := range oblongs() {
		size := max(m.Rows, m.Cols)
		if size > maxMinor || size > 4 && i%11 != 0 {
			continue
		}
		for k := range min(m.Rows, m.Cols) + 1 {
			want, fine := minorDivisor(m, k)
			counts[fine]++
			checkMinor(t, m, k, want, fine)
		}
		checkMinor(t, m, min(m.Rows, m.Cols)+1, 0, false)
	}
	for word := range 3 * 3 * 3 * 3 * 3 * 3 * 3 * 3 * 3 {
		m := spelled(3, word, []int{0, 6, -15})
		want, fine := minorDivisor(m, 2)
		checkMinor(t, m, 2, want, fine)
	}
	if counts[true] < 500 || counts[false] < 300 {
		t.Errorf("%d divisors were found, and %d failed", counts[true], counts[false])
	}
}

func TestFactorsMakeTheDivisorsOfMinors(t *testing.T) {
	compared := 0
	for _, m := range slices.Concat(oblongs(), units()) {
		factors, ok := impl.FactorsOf(m)
		if !ok || max(m.Rows, m.Cols) > maxMinor {
			continue
		}
		product := 1
		for k := range min(m.Rows, m.Cols) + 1 {
			if k > len(factors) {
				product = 0
			} else if k > 0 {
				product *= factors[k-1]
			}
			if _, ok := impl.MinorGcd(m, k); ok {
				compared++
				checkMinor(t, m, k, product, true)
			}
		}
	}
	if compared < 2000 {
		t.Errorf("only %d divisors were compared", compared)
	}
}

func TestSmithSharesNoMemory(t *testing.T) {
	for i, arg := range oblongs() {
		if i%3 != 0 {
			continue
		}
		m, whole := spare(arg)
		kept := slices.Clone(whole)
		d, u, v, ok := impl.SmithForm(m)
		factors, _ := impl.FactorsOf(m)
		impl.IsSmith(m)
		impl.MinorGcd(m, min(m.Rows, m.Cols))
		results := [][]int{d.Cells, u.Cells, v.Cells, factors}
		cells := []impl.Matrix{}
		for _, x := range []impl.Matrix{d, u, v} {
			cells = append(cells, matrix(x.Rows, x.Cols, slices.Clone(x.Cells)...))
		}
		// What is written into one list shows in no other one, not even behind its end.
		for mark, list := range results {
			written := list[:cap(list)]
			for place := range written {
				written[place] = -90 - mark
			}
		}
		for mark, list := range results {
			if slices.ContainsFunc(list[:cap(list)], func(cell int) bool { return cell != -90-mark }) {
				t.Fatalf("the results for %v share memory", arg)
			}
		}
		if !slices.Equal(whole, kept) {
			t.Fatalf("%v was changed, or its memory is that of a result", arg)
		}
		if ok {
			checkSmith(t, "the same once more", m, cells[0], cells[1], cells[2])
		} else {
			checkNoSmith(t, "the same once more", m)
		}
	}
}
