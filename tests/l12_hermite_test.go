package tests

import (
	"math/big"
	"slices"
	"testing"

	"loop.example/g03411/impl"
)

// accounted is a matrix on which row operations are done, with what they make of the identity matrix.
// It stops at the first cell, or multiple of one, that is beyond the limit.
type accounted struct {
	form, account impl.Matrix
	beyond        bool
}

func (x *accounted) do(op impl.RowOp) {
	for _, m := range []*impl.Matrix{&x.form, &x.account} {
		done, within := afterOp(*m, op)
		for _, cell := range done.Cells {
			within = within && -limit <= cell && cell <= limit
		}
		if !within {
			x.beyond = true
			return
		}
		*m = done
	}
}

func (x *accounted) cell(row, col int) int { return x.form.Cells[row*x.form.Cols+col] }

// floored is the quotient rounded so that the remainder is at least 0.
func floored(n, d int) int {
	r := new(big.Int)
	q, _ := new(big.Int).DivMod(big.NewInt(int64(n)), big.NewInt(int64(d)), r)
	return int(q.Int64())
}

// filled lists the rows from t on with something in a column.
func (x *accounted) filled(t, col int) []int {
	return slices.DeleteFunc(upTo(x.form.Rows), func(row int) bool { return row < t || x.cell(row, col) == 0 })
}

// hermiteByWords returns what HermiteForm is to return for a valid matrix, sentence by sentence.
func hermiteByWords(m impl.Matrix) (h, u impl.Matrix, ok bool) {
	one := built(m.Rows, m.Rows, func(row, col int) int {
		if row == col {
			return 1
		}
		return 0
	})
	x, t := &accounted{form: m, account: one}, 0
	for col := 0; col < m.Cols && t < m.Rows && !x.beyond; col++ {
		filled := x.filled(t, col)
		if len(filled) == 0 {
			continue
		}
		// The first of those that are least.
		least := func(a, b int) int { return max(x.cell(a, col), -x.cell(a, col)) - max(x.cell(b, col), -x.cell(b, col)) }
		p := slices.MinFunc(filled, least)
		for len(filled) > 1 && !x.beyond {
			for _, i := range filled {
				if i != p {
					x.do(addRow(i, p, -floored(x.cell(i, col), x.cell(p, col))))
				}
			}
			filled = x.filled(t, col)
			p = slices.MinFunc(filled, least)
		}
		if p != t {
			x.do(swapRows(p, t))
		}
		if x.cell(t, col) < 0 {
			x.do(negateRow(t))
		}
		for i := range t {
			if !x.beyond {
				x.do(addRow(i, t, -floored(x.cell(i, col), x.cell(t, col))))
			}
		}
		t++
	}
	if x.beyond {
		return impl.Matrix{}, impl.Matrix{}, false
	}
	return x.form, x.account, true
}

// basisOfSums returns the rows other than zeros of the Hermite form of the sums of multiples of the rows. It takes one row
// after the other into the basis, with combinations that make divisors, so it goes another way than the document. It knows no limits.
func basisOfSums(rows [][]*big.Int, cols int) [][]*big.Int {
	basis := make([][]*big.Int, cols)
	for _, row := range rows {
		for col := range cols {
			if row[col].Sign() == 0 {
				continue
			}
			if basis[col] == nil {
				basis[col] = row
				break
			}
			x, y := new(big.Int), new(big.Int)
			g := new(big.Int).GCD(x, y, basis[col][col], row[col])
			lessB := new(big.Int).Neg(new(big.Int).Quo(row[col], g))
			basis[col], row = combined(x, basis[col], y, row), combined(lessB, basis[col], new(big.Int).Quo(basis[col][col], g), row)
		}
	}
	done := [][]*big.Int{}
	for col, row := range basis {
		if row == nil {
			continue
		}
		if row[col].Sign() < 0 {
			row = combined(big.NewInt(-1), row, new(big.Int), row)
		}
		for i, above := range done {
			less := new(big.Int).Div(above[col], row[col])
			done[i] = combined(big.NewInt(1), above, less.Neg(less), row)
		}
		done = append(done, row)
	}
	return done
}

func combined(x *big.Int, a []*big.Int, y *big.Int, b []*big.Int) []*big.Int {
	sum := make([]*big.Int, len(a))
	for i := range a {
		sum[i] = new(big.Int).Mul(x, a[i])
		sum[i].Add(sum[i], new(big.Int).Mul(y, b[i]))
	}
	return sum
}

// smallRows returns the rows as a matrix; false if a cell is beyond the limit.
func smallRows(rows [][]*big.Int, cols int) (impl.Matrix, bool) {
	fits := true
	m := built(len(rows), cols, func(row, col int) int {
		cell, within := numberOf(rows[row][col])
		fits = fits && within
		return cell
	})
	return m, fits
}

// isHermiteForm tells whether a valid matrix is in Hermite form, by each of the conditions of the document alone.
func isHermiteForm(m impl.Matrix) bool {
	leads := make([]int, m.Rows)
	for row := range m.Rows {
		cells := m.Cells[row*m.Cols : (row+1)*m.Cols]
		leads[row] = slices.IndexFunc(cells, func(cell int) bool { return cell != 0 })
	}
	for row, lead := range leads {
		if lead < 0 {
			continue
		}
		pivot := m.Cells[row*m.Cols+lead]
		if pivot <= 0 {
			return false
		}
		for above := range row {
			if leads[above] < 0 || leads[above] >= lead || m.Cells[above*m.Cols+lead] < 0 || m.Cells[above*m.Cols+lead] > pivot-1 {
				return false
			}
		}
	}
	return true
}

// withoutZeros returns the rows that are not zeros.
func withoutZeros(m impl.Matrix) impl.Matrix {
	left := impl.Matrix{Cols: m.Cols}
	for row := range m.Rows {
		cells := m.Cells[row*m.Cols : (row+1)*m.Cols]
		if slices.ContainsFunc(cells, func(cell int) bool { return cell != 0 }) {
			left = impl.Matrix{Rows: left.Rows + 1, Cols: m.Cols, Cells: append(left.Cells, cells...)}
		}
	}
	return left
}

func checkHermite(t *testing.T, name string, m, h, u impl.Matrix) {
	t.Helper()
	form, account, ok := impl.HermiteForm(m)
	if !ok || !same(form, h) || !same(account, u) {
		t.Errorf("%s: HermiteForm(%v) = %v, %v, %t, want %v, %v, true", name, m, form, account, ok, h, u)
	}
	basis, ok := impl.BasisOf(m)
	checkMatrix(t, name+": the basis", basis, ok, withoutZeros(h))
}

func checkNoHermite(t *testing.T, name string, m impl.Matrix) {
	t.Helper()
	form, account, ok := impl.HermiteForm(m)
	if ok || !same(form, impl.Matrix{}) || !same(account, impl.Matrix{}) {
		t.Errorf("%s: HermiteForm(%v) = %v, %v, %t, want zero matrices and false", name, m, form, account, ok)
	}
	basis, ok := impl.BasisOf(m)
	checkNoMatrix(t, name+": the basis", basis, ok)
}

// checkHermiteWay compares with the steps of the document, and tells whether there is a form.
func checkHermiteWay(t *testing.T, m impl.Matrix) bool {
	t.Helper()
	h, u, ok := hermiteByWords(m)
	if ok {
		checkHermite(t, "by words", m, h, u)
	} else {
		checkNoHermite(t, "by words", m)
	}
	return ok
}

func TestHermiteForm(t *testing.T) {
	checkHermite(t, "two rows", matrix(2, 2, 2, 4, 3, 1), matrix(2, 2, 1, 7, 0, 10), matrix(2, 2, 2, -1, 3, -2))
	checkHermite(t, "one cell", matrix(1, 1, 5), matrix(1, 1, 5), matrix(1, 1, 1))
	checkHermite(t, "a negative cell", matrix(1, 1, -5), matrix(1, 1, 5), matrix(1, 1, -1))
	checkHermite(t, "a zero", matrix(1, 1, 0), matrix(1, 1, 0), matrix(1, 1, 1))
	checkHermite(t, "a swap and a sign", matrix(2, 1, 0, -3), matrix(2, 1, 3, 0), matrix(2, 2, 0, -1, 1, 0))
	// Of two rows that are equally near to 0 the first one is taken, whatever its sign.
	checkHermite(t, "rows with the same cell", matrix(2, 1, 3, 3), matrix(2, 1, 3, 0), matrix(2, 2, 1, 0, -1, 1))
	checkHermite(t, "a negative row first", matrix(2, 1, -3, 3), matrix(2, 1, 3, 0), matrix(2, 2, -1, 0, 1, 1))
	checkHermite(t, "a negative row second", matrix(2, 1, 3, -3), matrix(2, 1, 3, 0), matrix(2, 2, 1, 0, 1, 1))
	checkHermite(t, "the least row below", matrix(3, 1, 4, 2, -2), matrix(3, 1, 2, 0, 0), matrix(3, 3, 0, 1, 0, 1, -2, 0, 0, 1, 1))
	// Remainders are at least 0, also those by a negative cell.
	checkHermite(t, "a negative divisor", matrix(2, 1, 5, -3), matrix(2, 1, 1, 0), matrix(2, 2, 2, 3, -3, -5))
	checkHermite(t, "a negative cell to divide", matrix(2, 1, -5, 3), matrix(2, 1, 1, 0), matrix(2, 2, 1, 2, -3, -5))
	// All rows are divided by the same one before the least one is looked for again.
	checkHermite(t, "three rows", matrix(3, 1, 6, 10, 15), matrix(3, 1, 1, 0, 0), matrix(3, 3, 1, 1, -1, 5, 0, -2, -5, -3, 4))
	checkHermite(t, "cells above pivots", matrix(3, 3, 1, 5, -7, 0, 3, 4, 0, 0, 6), matrix(3, 3, 1, 2, 1, 0, 3, 4, 0, 0, 6), matrix(3, 3, 1, -1, 2, 0, 1, 0, 0, 0, 1))
	checkHermite(t, "a negative cell above a pivot", matrix(2, 2, 1, -1, 0, 3), matrix(2, 2, 1, 2, 0, 3), matrix(2, 2, 1, 1, 0, 1))
	checkHermite(t, "the pivot itself above it", matrix(2, 2, 1, 3, 0, 3), matrix(2, 2, 1, 0, 0, 3), matrix(2, 2, 1, -1, 0, 1))
	checkHermite(t, "rows that depend on each other", matrix(2, 2, 2, 4, 3, 6), matrix(2, 2, 1, 2, 0, 0), matrix(2, 2, -1, 1, 3, -2))
	checkHermite(t, "more columns than rows", matrix(1, 3, -2, 4, 6), matrix(1, 3, 2, -4, -6), matrix(1, 1, -1))
	checkHermite(t, "the same once more", matrix(2, 3, 1, 1, -9, 0, 2, 9), matrix(2, 3, 1, 1, -9, 0, 2, 9), matrix(2, 2, 1, 0, 0, 1))
	checkHermite(t, "no rows", matrix(0, 4), matrix(0, 4), impl.Matrix{})
	checkHermite(t, "no columns", matrix(3, 0), matrix(3, 0), matrix(3, 3, 1, 0, 0, 0, 1, 0, 0, 0, 1))
	checkHermite(t, "nothing", impl.Matrix{}, impl.Matrix{}, impl.Matrix{})
}

func TestColumnOfZeros(t *testing.T) {
	checkHermite(t, "the only column", matrix(2, 1, 0, 0), matrix(2, 1, 0, 0), matrix(2, 2, 1, 0, 0, 1))
	checkHermite(t, "the first column", matrix(2, 2, 0, 4, 0, -6), matrix(2, 2, 0, 2, 0, 0), matrix(2, 2, 2, 1, -3, -2))
	checkHermite(t, "the last column", matrix(2, 2, 4, 0, -6, 0), matrix(2, 2, 2, 0, 0, 0), matrix(2, 2, 2, 1, -3, -2))
	checkHermite(t, "a column in between", matrix(2, 3, 1, 0, 5, 0, 0, 3), matrix(2, 3, 1, 0, 2, 0, 0, 3), matrix(2, 2, 1, -1, 0, 1))
	checkHermite(t, "two columns", matrix(2, 4, 0, 1, 0, -1, 0, 1, 0, 1), matrix(2, 4, 0, 1, 0, 1, 0, 0, 0, 2), matrix(2, 2, 0, 1, -1, 1))
	// From the second row on there is nothing in the column, though there is something above.
	checkHermite(t, "zeros below a pivot", matrix(2, 3, 1, 7, 5, 0, 0, 3), matrix(2, 3, 1, 7, 2, 0, 0, 3), matrix(2, 2, 1, -1, 0, 1))
	checkHermite(t, "only zeros", matrix(2, 3, 0, 0, 0, 0, 0, 0), matrix(2, 3, 0, 0, 0, 0, 0, 0), matrix(2, 2, 1, 0, 0, 1))
	for _, m := range oblongs() {
		if m.Rows > 6 || m.Cols > 6 {
			continue
		}
		h, u, ok := impl.HermiteForm(m)
		for place := range m.Cols + 1 {
			// The zeros change neither the other columns nor the operations.
			widened := func(m impl.Matrix) impl.Matrix {
				return built(m.Rows, m.Cols+1, func(row, col int) int {
					switch {
					case col < place:
						return m.Cells[row*m.Cols+col]
					case col > place:
						return m.Cells[row*m.Cols+col-1]
					}
					return 0
				})
			}
			if ok {
				checkHermite(t, "with a column of zeros", widened(m), widened(h), u)
				if !impl.IsHermite(widened(h)) {
					t.Errorf("IsHermite(%v) = false", widened(h))
				}
			} else {
				checkNoHermite(t, "with a column of zeros", widened(m))
			}
		}
	}
}

func TestHermiteFollowsItsWay(t *testing.T) {
	made, failed := 0, 0
	check := func(m impl.Matrix) {
		t.Helper()
		if checkHermiteWay(t, m) {
			made++
		} else {
			failed++
		}
	}
	for _, m := range oblongs() {
		check(m)
	}
	if made < 500 || failed < 500 {
		t.Errorf("%d forms were made, and %d failed", made, failed)
	}
	for word := range 6 * 6 * 6 * 6 {
		check(spelled(2, word, []int{0, 1, -2, 6, -9, 15}))
		check(spelled(2, word, []int{0, 1, 20000, 20001, -19999, limit}))
	}
	for word := range 3 * 3 * 3 * 3 * 3 * 3 * 3 * 3 * 3 {
		check(spelled(3, word, []int{0, 2, -3}))
		if word%5 == 0 {
			check(spelled(3, word, []int{0, 700, 701}))
			check(spelled(3, word, []int{1, 30, -20001}))
		}
	}
	for word := range 9 * 9 * 9 {
		numbers := []int{0, 1, -1, 4, -6, 15, 21, limit, 1 - limit}
		check(matrix(3, 1, numbers[word%9], numbers[word/9%9], numbers[word/81]))
	}
}

func TestHermiteFormsComeWithTheirMatrices(t *testing.T) {
	for _, m := range slices.Concat(oblongs(), squares(), units()) {
		h, u, ok := impl.HermiteForm(m)
		if !ok {
			continue
		}
		product, ok := impl.MultiplyMatrices(u, m)
		checkMatrix(t, "the product", product, ok, h)
		determinant := bigDeterminant(u)
		if u.Rows != m.Rows || u.Cols != m.Rows || determinant.CmpAbs(big.NewInt(1)) != 0 {
			t.Errorf("HermiteForm(%v) = %v, %v, with the determinant %v", m, h, u, determinant)
		}
		if _, expands := impl.DeterminantOf(u); expands && !impl.IsUnimodular(u) {
			t.Errorf("IsUnimodular(%v) = false", u)
		}
		if !isHermiteForm(h) || !impl.IsHermite(h) {
			t.Errorf("HermiteForm(%v) = %v, which is no Hermite form", m, h)
		}
		checkHermite(t, "the form of a form", h, h, matrixOr(impl.IdentityMatrix(m.Rows)))
	}
}

func TestHermiteFormIsThatOfItsLattice(t *testing.T) {
	made := 0
	for _, m := range oblongs() {
		h, _, ok := impl.HermiteForm(m)
		if !ok {
			continue
		}
		made++
		basis, fits := smallRows(basisOfSums(bigRows(m), m.Cols), m.Cols)
		if !fits || !same(withoutZeros(h), basis) {
			t.Errorf("HermiteForm(%v) = %v, want the rows of %v", m, h, basis)
		}
		got, ok := impl.BasisOf(m)
		checkMatrix(t, "the basis", got, ok, basis)
		if rows, _ := bySpace(m); len(rows) != got.Rows {
			t.Errorf("BasisOf(%v) = %v, but the rank is %d", m, got, len(rows))
		}
	}
	if made < 500 {
		t.Errorf("only %d forms were made", made)
	}
}

func TestSameLatticesHaveSameForms(t *testing.T) {
	checked := 0
	for i, m := range oblongs() {
		basis, ok := impl.BasisOf(m)
		if !ok || i%4 != 0 || m.Rows > 7 {
			continue
		}
		others := []impl.Matrix{}
		add := func(other impl.Matrix, ok bool) {
			if ok {
				others = append(others, other)
			}
		}
		add(impl.ScaleMatrix(m, -1))
		for seed := range 3 {
			if m.Rows >= 2 {
				add(impl.DoRowOps(m, mixedOps(m.Rows, 5+seed, i+seed)))
			}
			// Sums of multiples of the rows belong to the lattice, so they add nothing to it.
			if sums, ok := impl.MultiplyMatrices(mixed(2, m.Rows, 2, i+seed), m); ok {
				add(impl.StackRows(m, sums))
				add(impl.StackRows(sums, m))
				add(impl.StackRows(basis, sums))
			}
		}
		for _, other := range others {
			if got, ok := impl.BasisOf(other); ok {
				checked++
				checkMatrix(t, "the basis of the same lattice", got, ok, basis)
			}
		}
	}
	if checked < 1000 {
		t.Errorf("only %d matrices were compared", checked)
	}
}

func TestOtherLatticesHaveOtherForms(t *testing.T) {
	checked := 0
	for seed := range 200 {
		n := 1 + seed%4
		m, times := mixed(n, n, 5, seed), mixed(n, n, 3, seed+3000)
		whole, index := trueDeterminant(m), trueDeterminant(times)
		basis, ok := impl.BasisOf(m)
		part, fine := impl.BasisOf(matrixOr(impl.MultiplyMatrices(times, m)))
		if whole.Sign() == 0 || index.Sign() == 0 || !ok || !fine {
			continue
		}
		checked++
		if unit := index.CmpAbs(big.NewInt(1)) == 0; same(basis, part) != unit {
			t.Errorf("the bases of %v and of its part of index %v are %v and %v", m, index, basis, part)
		}
		// The determinant, up to its sign, is that of the form, and multiplied by the index for the part.
		if trueDeterminant(basis).CmpAbs(whole) != 0 || trueDeterminant(part).CmpAbs(whole.Mul(whole, index)) != 0 {
			t.Errorf("the determinants of %v and %v are not those of the matrices", basis, part)
		}
	}
	if checked < 100 {
		t.Errorf("only %d matrices were compared", checked)
	}
	// The spaces are the same, the lattices are not.
	even, _ := impl.BasisOf(matrix(2, 2, 2, 0, 0, 1))
	odd, _ := impl.BasisOf(matrix(2, 2, 1, 0, 0, 2))
	if same(even, odd) {
		t.Errorf("two lattices have the basis %v", even)
	}
}

func TestHermiteLimits(t *testing.T) {
	checkHermite(t, "a cell at the lower limit", matrix(1, 1, -limit), matrix(1, 1, limit), matrix(1, 1, -1))
	checkHermite(t, "cells at the limits", matrix(2, 2, limit, 0, limit, -limit), matrix(2, 2, limit, 0, 0, limit), matrix(2, 2, 1, 0, 1, -1))
	checkNoHermite(t, "a cell beyond the lower limit", matrix(2, 2, limit, 1, limit, -limit))
	checkHermite(t, "a cell at the upper limit", matrix(2, 2, limit, -1, limit, limit-1), matrix(2, 2, limit, limit-1, 0, limit), matrix(2, 2, 0, 1, -1, 1))
	checkNoHermite(t, "a cell beyond the upper limit", matrix(2, 2, limit, -1, limit, limit))
	// What is added is held to the limit, too.
	checkHermite(t, "a multiple at the limit", matrix(2, 2, 1, 200000000, 2, limit), matrix(2, 2, 1, 200000000, 0, 0), matrix(2, 2, 1, 0, -2, 1))
	checkNoHermite(t, "a multiple beyond the limit that would bring a cell within it", matrix(2, 2, 1, 200000001, 2, limit))
	checkHermite(t, "as many times as the limit", matrix(2, 1, 1, limit), matrix(2, 1, 1, 0), matrix(2, 2, 1, 0, -limit, 1))
	checkHermite(t, "as many times as the lower limit", matrix(2, 1, 1, -limit), matrix(2, 1, 1, 0), matrix(2, 2, 1, 0, limit, 1))
	checkHermite(t, "by a negative cell", matrix(2, 1, -1, limit), matrix(2, 1, 1, 0), matrix(2, 2, -1, 0, limit, 1))
	checkHermite(t, "two great cells", matrix(2, 1, limit, limit-1), matrix(2, 1, 1, 0), matrix(2, 2, 1, -1, 1-limit, limit))
	// The form of these is the identity matrix, so the cells of u alone are beyond the limit.
	chain := func(a, b, c int) impl.Matrix { return matrix(3, 3, 1, 0, 0, a, 1, 0, c, b, 1) }
	one := matrixOr(impl.IdentityMatrix(3))
	checkHermite(t, "u at the limit", chain(20000, 20000, 0), one, matrix(3, 3, 1, 0, 0, -20000, 1, 0, limit, -20000, 1))
	checkNoHermite(t, "u beyond the limit", chain(20000, 20001, 0))
	checkHermite(t, "u at the lower limit", chain(20000, -20000, 0), one, matrix(3, 3, 1, 0, 0, -20000, 1, 0, -limit, 20000, 1))
	checkNoHermite(t, "u beyond the lower limit", chain(20001, -20000, 0))
	checkNoHermite(t, "a multiple beyond the limit in u", chain(20001, 20000, 20000))
	checkNoHermite(t, "a sum beyond the limit in u", chain(20000, 20000, -1))
	checkHermite(t, "a sum within the limit in u", chain(20000, 20000, 1), one, matrix(3, 3, 1, 0, 0, -20000, 1, 0, limit-1, -20000, 1))
	// Above a pivot.
	checkHermite(t, "an upper row at the limit", matrix(2, 3, 1, limit, 0, 0, 1, 1), matrix(2, 3, 1, 0, -limit, 0, 1, 1), matrix(2, 2, 1, -limit, 0, 1))
	checkNoHermite(t, "an upper row beyond the limit", matrix(2, 3, 1, limit, -1, 0, 1, 1))
	checkNoHermite(t, "a multiple beyond the limit for an upper row", matrix(2, 3, 1, limit, limit, 0, 1, 2))
	checkHermite(t, "a great upper row that stays", matrix(2, 3, 1, limit-1, limit, 0, limit, limit), matrix(2, 3, 1, limit-1, limit, 0, limit, limit), matrix(2, 2, 1, 0, 0, 1))
	checkNoHermite(t, "an upper row beyond the limit in u", matrix(3, 4, 1, 20000, 0, 0, 0, 1, 20001, 0, 0, 0, 1, 0))
	// Which row is taken decides whether there is a form.
	checkHermite(t, "a small row last", matrix(3, 2, 9, limit, 7, limit, 1, 0), matrix(3, 2, 1, 0, 0, limit, 0, 0), matrix(3, 3, 0, 0, 1, 0, 1, -7, 1, -1, -2))
	checkNoHermite(t, "a great row among the least ones first", matrix(3, 2, 7, limit, 14, 0, 7, 0))
	checkHermite(t, "a great row among the least ones last", matrix(3, 2, 7, 0, 14, 0, 7, limit), matrix(3, 2, 7, 0, 0, limit, 0, 0), matrix(3, 3, 1, 0, 0, -1, 0, 1, -2, 1, 0))
}

func TestGreatestHermiteForms(t *testing.T) {
	one := matrixOr(impl.IdentityMatrix(maxSize))
	zeros := matrix(maxSize, maxSize, make([]int, maxSize*maxSize)...)
	checkHermite(t, "the identity matrix", one, one, one)
	checkHermite(t, "zeros", zeros, zeros, one)
	turned := built(maxSize, maxSize, func(row, col int) int {
		if row+col == maxSize-1 {
			return -1
		}
		return 0
	})
	checkHermite(t, "all rows in the other order", turned, one, turned)
	made := 0
	for seed := range 40 {
		if checkHermiteWay(t, banded(maxSize, maxSize, seed)) {
			made++
		}
	}
	if made < 5 {
		t.Errorf("only %d forms of the greatest size were made", made)
	}
}

func TestHermiteRefuses(t *testing.T) {
	for _, m := range append(noMatrices(), matrix(2, 2, limit+1, 0, 0, limit+1), matrix(1, 2, 0, -limit-1), matrix(1, 1, 1, 0), matrix(2, 1, 1)) {
		checkNoHermite(t, "no matrix", m)
		if impl.IsHermite(m) {
			t.Errorf("IsHermite(%v) = true", m)
		}
	}
}

func TestIsHermite(t *testing.T) {
	forms := []impl.Matrix{
		{}, matrix(0, 3), matrix(3, 0), matrix(maxSize, maxSize, make([]int, maxSize*maxSize)...), matrix(1, 1, 0), matrix(1, 1, 1), matrix(1, 1, limit),
		matrix(2, 2, 1, 1, 0, 2), matrix(1, 2, 2, 4), matrix(1, 2, 2, -4), matrix(2, 2, 0, 1, 0, 0), matrix(3, 3, 1, 0, 5, 0, 1, 0, 0, 0, 6),
		matrix(2, 2, 1, limit-1, 0, limit), matrix(2, 3, 1, 0, limit, 0, 1, -limit), matrix(3, 4, 0, 2, -9, 0, 0, 0, 0, 7, 0, 0, 0, 0), matrix(2, 4, 2, limit, 0, 1, 0, 0, 3, 1),
	}
	refused := map[string]impl.Matrix{
		"a sign": matrix(1, 1, -1), "a sign of more cells": matrix(1, 3, 0, -1, 2), "a sign in the last row": matrix(2, 2, 1, 0, 0, -1),
		"zeros on top": matrix(2, 1, 0, 1), "zeros in between": matrix(3, 2, 1, 0, 0, 0, 0, 1), "zeros far on top": matrix(3, 2, 0, 0, 0, 0, 0, 1),
		"a pivot above a pivot": matrix(2, 2, 1, 2, 0, 2), "a greater cell above a pivot": matrix(2, 2, 1, 3, 0, 2), "a negative cell above a pivot": matrix(2, 2, 1, -1, 0, 2),
		"a cell far above a pivot": matrix(3, 3, 1, 0, 1, 0, 1, 0, 0, 0, 1), "a negative cell far above": matrix(3, 3, 1, 0, -1, 0, 1, 0, 0, 0, 5), "one above one": matrix(2, 2, 1, 1, 0, 1),
		"a cell below a pivot": matrix(2, 3, 1, 0, 0, 1, 1, 0), "one column for two": matrix(2, 2, 2, 0, 1, 0), "a lesser one column above": matrix(2, 2, 1, 0, 2, 0),
		"pivots to the left": matrix(2, 2, 0, 1, 1, 0), "pivots to the left below": matrix(3, 3, 1, 0, 0, 0, 0, 1, 0, 1, 0), "a row twice": matrix(2, 2, 1, 1, 1, 1),
	}
	checkForms(t, "IsHermite", impl.IsHermite, forms, refused)
}

func TestHermiteFormsAreWhatStays(t *testing.T) {
	checkStays(t, "IsHermite", impl.IsHermite, isHermiteForm, func(m impl.Matrix) (impl.Matrix, bool, bool) {
		h, u, ok := impl.HermiteForm(m)
		return h, same(h, m) && same(u, matrixOr(impl.IdentityMatrix(m.Rows))), ok
	})
}

func TestBasisOf(t *testing.T) {
	check := func(m, want impl.Matrix) {
		t.Helper()
		got, ok := impl.BasisOf(m)
		checkMatrix(t, "the basis", got, ok, want)
	}
	check(matrix(3, 2, 2, 0, 0, 2, 1, 1), matrix(2, 2, 1, 1, 0, 2))
	check(matrix(2, 2, 0, 0, 0, 0), matrix(0, 2))
	check(matrix(3, 1, 6, 10, 15), matrix(1, 1, 1))
	check(matrix(2, 3, 0, 0, 0, 0, 0, -7), matrix(1, 3, 0, 0, 7))
	check(matrix(4, 2, 1, 2, 0, 0, -1, -2, 2, 4), matrix(1, 2, 1, 2))
	check(matrix(2, 2, 4, 0, 0, 6), matrix(2, 2, 4, 0, 0, 6))
	check(matrix(0, 5), matrix(0, 5))
	check(matrix(5, 0), matrix(0, 0))
	check(impl.Matrix{}, impl.Matrix{})
	// The form would be made, but u would not.
	got, ok := impl.BasisOf(matrix(3, 3, 1, 0, 0, 20001, 1, 0, 0, 20001, 1))
	checkNoMatrix(t, "without u", got, ok)
}

func TestHermiteSharesNoMemory(t *testing.T) {
	for i, arg := range oblongs() {
		if i%3 != 0 {
			continue
		}
		m, whole := spare(arg)
		kept := slices.Clone(whole)
		h, u, ok := impl.HermiteForm(m)
		basis, _ := impl.BasisOf(m)
		impl.IsHermite(m)
		form, account := slices.Clone(h.Cells), slices.Clone(u.Cells)
		// What is written into one list shows in no other one, not even behind its end.
		for mark, cells := range [][]int{h.Cells, u.Cells, basis.Cells} {
			written := cells[:cap(cells)]
			for place := range written {
				written[place] = -90 - mark
			}
			if mark == 0 && !slices.Equal(u.Cells, account) {
				t.Fatalf("the results for %v share memory", arg)
			}
		}
		if slices.ContainsFunc(h.Cells, func(cell int) bool { return cell != -90 }) || !slices.Equal(whole, kept) {
			t.Fatalf("%v was changed, or its memory is that of a result", arg)
		}
		if ok {
			checkHermite(t, "the same once more", m, matrix(arg.Rows, arg.Cols, form...), matrix(arg.Rows, arg.Rows, account...))
		} else {
			checkNoHermite(t, "the same once more", m)
		}
	}
}
