package tests

import (
	"math/big"
	"slices"
	"testing"

	"loop.example/g03411/impl"
)

// byWay returns what EchelonOf is to return for a valid matrix, by its steps in numbers without limits:
// every cell that is made is held to the limit afterwards.
func byWay(m impl.Matrix) (impl.Matrix, []int, bool) {
	rows, pivots, within := bigRows(m), []int{}, true
	for _, row := range rows {
		makePrimitive(row)
	}
	for col := range m.Cols {
		t := len(pivots)
		first := slices.IndexFunc(rows[t:], func(row []*big.Int) bool { return row[col].Sign() != 0 })
		if first < 0 {
			continue
		}
		rows[t], rows[t+first] = rows[t+first], rows[t]
		for i, row := range rows {
			x, y := row[col], rows[t][col]
			if i == t || x.Sign() == 0 {
				continue
			}
			g := new(big.Int).GCD(nil, nil, new(big.Int).Abs(x), new(big.Int).Abs(y))
			timesRow, timesPivots := new(big.Int).Quo(y, g), new(big.Int).Quo(x, g)
			made := make([]*big.Int, m.Cols)
			for j := range made {
				made[j] = new(big.Int).Mul(timesRow, row[j])
				made[j].Sub(made[j], new(big.Int).Mul(timesPivots, rows[t][j]))
				_, fits := numberOf(made[j])
				within = within && fits
			}
			makePrimitive(made)
			rows[i] = made
		}
		pivots = append(pivots, col)
	}
	if !within {
		return impl.Matrix{}, nil, false
	}
	return built(m.Rows, m.Cols, func(row, col int) int { return int(rows[row][col].Int64()) }), pivots, true
}

func bigRows(m impl.Matrix) [][]*big.Int {
	rows := make([][]*big.Int, m.Rows)
	for row := range rows {
		for col := range m.Cols {
			rows[row] = append(rows[row], big.NewInt(int64(m.Cells[row*m.Cols+col])))
		}
	}
	return rows
}

func makePrimitive(row []*big.Int) {
	divisor := new(big.Int)
	for _, cell := range row {
		divisor.GCD(nil, nil, divisor, new(big.Int).Abs(cell))
	}
	first := slices.IndexFunc(row, func(cell *big.Int) bool { return cell.Sign() != 0 })
	if first < 0 {
		return
	}
	if row[first].Sign() < 0 {
		divisor.Neg(divisor)
	}
	for _, cell := range row {
		cell.Quo(cell, divisor)
	}
}

// bySpace returns the rows other than zeros of the echelon form, by fractions, with the last row that has something as the pivot,
// so on another way than that of the document. It knows no limits.
func bySpace(m impl.Matrix) (rows [][]*big.Int, pivots []int) {
	var left [][]*big.Rat
	for _, row := range bigRows(m) {
		var fractions []*big.Rat
		for _, cell := range row {
			fractions = append(fractions, new(big.Rat).SetInt(cell))
		}
		left = append(left, fractions)
	}
	var done [][]*big.Rat
	for col := range m.Cols {
		place := len(left) - 1
		for place >= 0 && left[place][col].Sign() == 0 {
			place--
		}
		if place < 0 {
			continue
		}
		pivot := left[place]
		left = slices.Delete(left, place, place+1)
		inverse := new(big.Rat).Inv(pivot[col])
		for _, cell := range pivot {
			cell.Mul(cell, inverse)
		}
		for _, row := range slices.Concat(done, left) {
			times := new(big.Rat).Set(row[col])
			for j, cell := range row {
				cell.Sub(cell, new(big.Rat).Mul(times, pivot[j]))
			}
		}
		done, pivots = append(done, pivot), append(pivots, col)
	}
	for _, row := range done {
		rows = append(rows, wholeRow(row))
	}
	return rows, pivots
}

// wholeRow returns the primitive multiple of a row of fractions.
func wholeRow(row []*big.Rat) []*big.Int {
	common := big.NewInt(1)
	for _, cell := range row {
		common.Mul(common, cell.Denom())
	}
	whole := make([]*big.Int, len(row))
	for i, cell := range row {
		whole[i] = new(big.Int).Mul(cell.Num(), new(big.Int).Quo(common, cell.Denom()))
	}
	makePrimitive(whole)
	return whole
}

// isForm tells whether a valid matrix is an echelon form, by each of the conditions of the document alone.
func isForm(m impl.Matrix) bool {
	leads := make([]int, m.Rows)
	for row := range m.Rows {
		cells := m.Cells[row*m.Cols : (row+1)*m.Cols]
		leads[row] = slices.IndexFunc(cells, func(cell int) bool { return cell != 0 })
		divisor := new(big.Int)
		for _, cell := range cells {
			divisor.GCD(nil, nil, divisor, big.NewInt(int64(max(cell, -cell))))
		}
		if leads[row] >= 0 && (divisor.Cmp(big.NewInt(1)) != 0 || cells[leads[row]] < 0) {
			return false
		}
	}
	for row, lead := range leads {
		for other, otherLead := range leads {
			switch {
			case lead < 0 && otherLead >= 0 && other > row:
				return false
			case lead >= 0 && otherLead >= 0 && other > row && otherLead <= lead:
				return false
			case lead >= 0 && other != row && m.Cells[other*m.Cols+lead] != 0:
				return false
			}
		}
	}
	return true
}

// oblongs holds matrices of many sizes and ranks: small cells, rows of zeros in any place, rows that depend on each other,
// and cells so great that some ways are within the limit and others are not.
func oblongs() []impl.Matrix {
	l := append(someMatrices(), squares()...)
	for rows := range 7 {
		for cols := range 7 {
			for seed := range 6 {
				l = append(l, mixed(rows, cols, 1, seed), mixed(rows, cols, 4, seed), mixed(rows, cols, 20, seed), mixed(rows, cols, 300, seed))
				l = append(l, mixed(rows, cols, 20000, seed), mixed(rows, cols, limit, seed))
				l = append(l, withZeros(mixed(rows, cols, 5, seed), seed), withZeros(mixed(rows, cols, 9000, seed), seed))
				l = append(l, ofRank(rows, cols, seed%4, 3, seed), ofRank(rows, cols, seed%3, 60, seed))
			}
		}
	}
	for seed := range 8 {
		l = append(l, ofRank(maxSize, maxSize, 2, 5, seed), ofRank(maxSize, 3, 2, 9, seed), ofRank(3, maxSize, 3, 9, seed), mixed(maxSize, maxSize, 1, seed))
		l = append(l, banded(maxSize, maxSize, seed), banded(maxSize, 13, seed), banded(13, maxSize, seed))
	}
	return l
}

// withZeros returns the matrix with zeros in place of some of its rows and columns.
func withZeros(m impl.Matrix, seed int) impl.Matrix {
	choice := mixed(2, maxSize, 2, seed).Cells
	return built(m.Rows, m.Cols, func(row, col int) int {
		if choice[row] > 0 || choice[maxSize+col] > 1 {
			return 0
		}
		return m.Cells[row*m.Cols+col]
	})
}

// ofRank returns a matrix of this rank at most.
func ofRank(rows, cols, rank, bound, seed int) impl.Matrix {
	return matrixOr(impl.MultiplyMatrices(mixed(rows, rank, bound, seed), mixed(rank, cols, bound, seed+4000)))
}

// banded returns a matrix of few cells near its diagonal, with its rows out of order: even a large one has a form within the limit.
func banded(rows, cols, seed int) impl.Matrix {
	order := mixed(1, maxSize, 100, seed).Cells
	return built(rows, cols, func(row, col int) int {
		place := (row*5 + seed) % rows
		switch {
		case order[place]%4 == 0:
			return 0
		case col == place:
			return order[place]
		case col == place+1 || col == place+4:
			return order[place] * (col%3 - 1)
		}
		return 0
	})
}

func checkEchelon(t *testing.T, name string, m, want impl.Matrix, pivots ...int) {
	t.Helper()
	got, columns, ok := impl.EchelonOf(m)
	if !ok || !same(got, want) || !slices.Equal(columns, pivots) {
		t.Errorf("%s: EchelonOf(%v) = %v, %v, %t, want %v, %v, true", name, m, got, columns, ok, want, pivots)
	}
	if rank, ok := impl.RankOf(m); rank != len(pivots) || !ok {
		t.Errorf("%s: RankOf(%v) = %d, %t, want %d, true", name, m, rank, ok, len(pivots))
	}
}

func checkNoEchelon(t *testing.T, name string, m impl.Matrix) {
	t.Helper()
	got, columns, ok := impl.EchelonOf(m)
	if ok || !same(got, impl.Matrix{}) || len(columns) != 0 {
		t.Errorf("%s: EchelonOf(%v) = %v, %v, %t, want the zero Matrix, an empty list and false", name, m, got, columns, ok)
	}
	if rank, ok := impl.RankOf(m); rank != 0 || ok {
		t.Errorf("%s: RankOf(%v) = %d, %t, want 0, false", name, m, rank, ok)
	}
}

func TestEchelonOf(t *testing.T) {
	checkEchelon(t, "two pivots", matrix(2, 2, 2, 1, 0, 3), matrix(2, 2, 1, 0, 0, 1), 0, 1)
	checkEchelon(t, "a form already", matrix(2, 3, 2, 0, 1, 0, 3, 1), matrix(2, 3, 2, 0, 1, 0, 3, 1), 0, 1)
	checkEchelon(t, "fractions", matrix(2, 3, 1, 2, 3, 4, 5, 7), matrix(2, 3, 3, 0, -1, 0, 3, 5), 0, 1)
	checkEchelon(t, "rank 2 of 3", matrix(3, 3, 1, 2, 3, 4, 5, 6, 7, 8, 9), matrix(3, 3, 1, 0, -1, 0, 1, 2, 0, 0, 0), 0, 1)
	checkEchelon(t, "a column without a pivot", matrix(2, 3, 1, 2, 3, 2, 4, 7), matrix(2, 3, 1, 2, 0, 0, 0, 1), 0, 2)
	checkEchelon(t, "columns of zeros", matrix(2, 4, 0, 2, 0, 4, 0, 3, 0, 7), matrix(2, 4, 0, 1, 0, 0, 0, 0, 0, 1), 1, 3)
	checkEchelon(t, "a swap", matrix(3, 3, 0, 0, 5, 0, 3, 0, 2, 0, 0), matrix(3, 3, 1, 0, 0, 0, 1, 0, 0, 0, 1), 0, 1, 2)
	checkEchelon(t, "more rows than columns", matrix(3, 1, 0, 6, -4), matrix(3, 1, 1, 0, 0), 0)
	checkEchelon(t, "a row with a divisor", matrix(1, 3, 6, -4, 10), matrix(1, 3, 3, -2, 5), 0)
	checkEchelon(t, "a row with a sign", matrix(1, 3, 0, -4, 6), matrix(1, 3, 0, 2, -3), 1)
	checkEchelon(t, "a row with a sign alone", matrix(1, 2, -3, 2), matrix(1, 2, 3, -2), 0)
	checkEchelon(t, "a primitive row that is taken to be kept", matrix(1, 3, 2, 3, -4), matrix(1, 3, 2, 3, -4), 0)
	checkEchelon(t, "a cell", matrix(1, 1, -limit), matrix(1, 1, 1), 0)
	checkEchelon(t, "a cell of 0", matrix(1, 1, 0), matrix(1, 1, 0))
	checkEchelon(t, "an upper row that gets a divisor", matrix(2, 3, 2, 1, 1, 0, 1, -1), matrix(2, 3, 1, 0, 1, 0, 1, -1), 0, 1)
	checkEchelon(t, "a lower row that gets a sign", matrix(2, 2, 1, 2, 1, 1), matrix(2, 2, 1, 0, 0, 1), 0, 1)
	checkEchelon(t, "equal rows", matrix(3, 2, 3, -5, 3, -5, -6, 10), matrix(3, 2, 3, -5, 0, 0, 0, 0), 0)
	for rows := range maxSize + 1 {
		checkEchelon(t, "no columns", matrix(rows, 0), matrix(rows, 0))
		checkEchelon(t, "no rows", matrix(0, rows), matrix(0, rows))
		checkEchelon(t, "zeros alone", matrix(rows, 3, make([]int, 3*rows)...), matrix(rows, 3, make([]int, 3*rows)...))
		one := matrixOr(impl.IdentityMatrix(rows))
		checkEchelon(t, "an identity matrix", one, one, upTo(rows)...)
		backwards := built(rows, rows, func(row, col int) int {
			if row+col == rows-1 {
				return -row - 1
			}
			return 0
		})
		checkEchelon(t, "rows backwards", backwards, one, upTo(rows)...)
	}
}

func TestRowOfZerosOnTop(t *testing.T) {
	checkEchelon(t, "one on top", matrix(3, 3, 0, 0, 0, 2, 4, 6, 1, 2, 4), matrix(3, 3, 1, 2, 0, 0, 0, 1, 0, 0, 0), 0, 2)
	checkEchelon(t, "one on top of one row", matrix(2, 2, 0, 0, 3, 6), matrix(2, 2, 1, 2, 0, 0), 0)
	checkEchelon(t, "two on top", matrix(3, 2, 0, 0, 0, 0, 0, -7), matrix(3, 2, 0, 1, 0, 0, 0, 0), 1)
	checkEchelon(t, "one on top and one below", matrix(4, 2, 0, 0, 1, 1, 0, 0, 1, 2), matrix(4, 2, 1, 0, 0, 1, 0, 0, 0, 0), 0, 1)
	checkEchelon(t, "one on top of a column of zeros", matrix(2, 3, 0, 0, 0, 0, 4, 2), matrix(2, 3, 0, 2, 1, 0, 0, 0), 1)
	checkEchelon(t, "one that is the only row", matrix(1, 4, 0, 0, 0, 0), matrix(1, 4, 0, 0, 0, 0))
	if impl.IsEchelon(matrix(3, 3, 0, 0, 0, 1, 2, 0, 0, 0, 1)) || impl.IsEchelon(matrix(2, 1, 0, 1)) {
		t.Error("a row of zeros on top is not refused")
	}
	// Wherever a row of zeros is, the form is that of the other rows, with the zeros below. Where it is swapped with another row,
	// the order of the rows that are left may be another one, and so may be what is beyond the limit.
	for i, m := range oblongs() {
		if m.Rows >= maxSize || i%5 != 0 {
			continue
		}
		form, pivots, fine := impl.EchelonOf(m)
		for place := range m.Rows + 1 {
			more := matrix(m.Rows+1, m.Cols, slices.Insert(slices.Clone(m.Cells), place*m.Cols, make([]int, m.Cols)...)...)
			_, _, ok := byWay(more)
			if place == m.Rows && ok != fine {
				t.Errorf("EchelonOf(%v) ends with %t, and with %t if zeros are below", m, fine, ok)
			}
			if !ok {
				checkNoEchelon(t, "a row of zeros among others", more)
			} else if fine {
				below := matrix(m.Rows+1, m.Cols, append(slices.Clone(form.Cells), make([]int, m.Cols)...)...)
				checkEchelon(t, "a row of zeros among others", more, below, pivots...)
			}
			checkSpaces(t, m, more, ok && fine, ok && fine)
		}
	}
}

func TestEchelonFollowsItsWay(t *testing.T) {
	made, failed := 0, 0
	check := func(m impl.Matrix) {
		t.Helper()
		want, pivots, ok := byWay(m)
		if !ok {
			failed++
			checkNoEchelon(t, "a cell is beyond the limit", m)
			return
		}
		made++
		checkEchelon(t, "an echelon form", m, want, pivots...)
	}
	for _, m := range oblongs() {
		check(m)
	}
	if made < 500 || failed < 500 {
		t.Errorf("%d forms were made, and %d failed", made, failed)
	}
	for word := range 5 * 5 * 5 * 5 {
		check(spelled(2, word, []int{0, 1, -2, 6, -9}))
		check(spelled(2, word, []int{0, 20000, 20001, -19999, limit}))
	}
	for word := range 3 * 3 * 3 * 3 * 3 * 3 * 3 * 3 * 3 {
		check(spelled(3, word, []int{0, 2, -3}))
		if word%5 == 0 {
			check(spelled(3, word, []int{0, 700, 701}))
		}
	}
}

func TestEchelonIsThatOfItsSpace(t *testing.T) {
	for _, m := range oblongs() {
		got, columns, ok := impl.EchelonOf(m)
		if !ok {
			continue
		}
		rows, pivots := bySpace(m)
		fits := len(rows) <= m.Rows
		want := built(m.Rows, m.Cols, func(row, col int) int {
			if row >= len(rows) {
				return 0
			}
			cell, within := numberOf(rows[row][col])
			fits = fits && within
			return cell
		})
		if !fits || !same(got, want) || !slices.Equal(columns, pivots) {
			t.Errorf("EchelonOf(%v) = %v, %v, want %v, %v", m, got, columns, want, pivots)
		}
		if !isForm(got) || !impl.IsEchelon(got) {
			t.Errorf("EchelonOf(%v) = %v, which is no echelon form", m, got)
		}
		checkEchelon(t, "the form of a form", got, got, pivots...)
	}
}

func TestEchelonLimits(t *testing.T) {
	checkEchelon(t, "a cell at the limit", matrix(2, 3, 20000, 0, 1, 1, 20000, 0), matrix(2, 3, 20000, 0, 1, 0, limit, -1), 0, 1)
	checkNoEchelon(t, "a cell beyond the limit", matrix(2, 3, 20000, -1, 1, 1, 20000, 0))
	checkEchelon(t, "a cell at the lower limit", matrix(2, 3, 20000, 0, 1, 1, -20000, 0), matrix(2, 3, 20000, 0, 1, 0, limit, 1), 0, 1)
	checkNoEchelon(t, "a cell beyond the lower limit", matrix(2, 3, 20000, 1, 1, 1, -20000, 0))
	// The row would be 0, 1 after the division.
	checkNoEchelon(t, "a cell beyond the limit until it is divided", matrix(2, 2, 20001, 1, 1, 20001))
	checkNoEchelon(t, "a cell of an upper row beyond the limit until it is divided", matrix(3, 3, 20001, 1, 0, 0, 20000, 1, 0, 0, 1))
	checkEchelon(t, "products beyond the limit", matrix(2, 2, 30000, 29999, 30001, 30000), matrix(2, 2, 1, 0, 0, 1), 0, 1)
	checkEchelon(t, "products far beyond the limit", matrix(2, 2, limit, limit-1, limit-1, limit-2), matrix(2, 2, 1, 0, 0, 1), 0, 1)
	checkEchelon(t, "rows that are primitive only after a division", matrix(2, 2, limit, limit, limit, -limit), matrix(2, 2, 1, 0, 0, 1), 0, 1)
	checkEchelon(t, "cells with a common divisor", matrix(2, 2, 200000000, 1, 200000000, 0), matrix(2, 2, 1, 0, 0, 1), 0, 1)
	checkEchelon(t, "pivots with a common divisor", matrix(2, 3, 200000000, 1, 0, 200000000, 0, 1), matrix(2, 3, 200000000, 0, 1, 0, 1, -1), 0, 1)
	// The cells on the left of the pivot in an upper row are made, too.
	checkEchelon(t, "the pivot of an upper row at the limit", matrix(2, 3, 20000, 1, 0, 0, 20000, 1), matrix(2, 3, limit, 0, -1, 0, 20000, 1), 0, 1)
	checkNoEchelon(t, "the pivot of an upper row beyond the limit", matrix(2, 3, 20001, 1, 0, 0, 20000, 1))
	checkNoEchelon(t, "a cell between the pivots beyond the limit", matrix(2, 4, 1, 20001, 1, 0, 0, 0, 20000, 1))
	checkEchelon(t, "a cell between the pivots at the limit", matrix(2, 4, 1, 20000, 1, 0, 0, 0, 20000, 1), matrix(2, 4, 20000, limit, 0, -1, 0, 0, 20000, 1), 0, 2)
	// A row with 0 in the column stays, whatever the pivot is.
	checkEchelon(t, "a great row that stays", matrix(2, 3, limit, 1, 0, 0, 0, limit-1), matrix(2, 3, limit, 1, 0, 0, 0, 1), 0, 2)
	checkEchelon(t, "great rows that stay", matrix(2, 4, limit, 0, 0, 1, 0, 0, limit, 1), matrix(2, 4, limit, 0, 0, 1, 0, 0, limit, 1), 0, 2)
	// The same rows in another order: the first one with something in the column is the pivot, not the last or the least one.
	checkNoEchelon(t, "a great row first", matrix(3, 3, 20001, 0, 1, 1, 0, 0, 1, 20001, 0))
	checkEchelon(t, "a small row first", matrix(3, 3, 1, 0, 0, 20001, 0, 1, 1, 20001, 0), matrix(3, 3, 1, 0, 0, 0, 1, 0, 0, 0, 1), 0, 1, 2)
	checkEchelon(t, "a small row first behind zeros", matrix(4, 3, 0, 0, 0, 1, 0, 0, 20001, 0, 1, 1, 20001, 0), matrix(4, 3, 1, 0, 0, 0, 1, 0, 0, 0, 1, 0, 0, 0), 0, 1, 2)
	checkNoEchelon(t, "a small row last", matrix(3, 3, 20001, 0, 1, 1, 20001, 0, 1, 0, 0))
	checkNoEchelon(t, "a failure in the last step", matrix(3, 4, 1, 0, 0, 0, 0, 20001, 1, 0, 0, 0, 20000, 1))
}

func TestEchelonsRefuse(t *testing.T) {
	for _, m := range append(noMatrices(), matrix(2, 2, limit+1, 0, 0, limit+1), matrix(1, 2, 0, -limit-1), matrix(1, 1, 1, 0)) {
		checkNoEchelon(t, "no matrix", m)
		if impl.IsEchelon(m) {
			t.Errorf("IsEchelon(%v) = true", m)
		}
		for _, other := range []impl.Matrix{{}, m, matrix(1, 1, 1), matrix(0, 2), matrix(2, 2, 1, 0, 0, 1), {Cols: m.Cols}} {
			checkSpaces(t, m, other, false, false)
			checkSpaces(t, other, m, false, false)
		}
	}
}

func checkSpaces(t *testing.T, a, b impl.Matrix, want, fine bool) {
	t.Helper()
	if got, ok := impl.SameSpace(a, b); got != want || ok != fine {
		t.Errorf("SameSpace(%v, %v) = %t, %t, want %t, %t", a, b, got, ok, want, fine)
	}
}

func TestRankOf(t *testing.T) {
	full, lesser := 0, 0
	for i, m := range oblongs() {
		rank, ok := impl.RankOf(m)
		if !ok {
			continue
		}
		rows, _ := bySpace(m)
		if rank != len(rows) || rank > m.Rows || rank > m.Cols {
			t.Errorf("RankOf(%v) = %d, want %d", m, rank, len(rows))
		}
		if rank == min(m.Rows, m.Cols) {
			full++
		} else {
			lesser++
		}
		if other, ok := impl.RankOf(matrixOr(impl.TransposeOf(m))); ok && other != rank {
			t.Errorf("the rank of %v is %d, and %d when it is turned over", m, rank, other)
		}
		if i%3 == 0 && m.Rows <= 4 && m.Cols <= 4 && rank != rankByMinors(m) {
			t.Errorf("RankOf(%v) = %d, but a minor of %d rows is the greatest one that is not 0", m, rank, rankByMinors(m))
		}
		if determinant, ok := impl.DeterminantOf(m); ok && (determinant != 0) != (rank == m.Rows) {
			t.Errorf("RankOf(%v) = %d, and the determinant is %d", m, rank, determinant)
		}
	}
	if full < 300 || lesser < 300 {
		t.Errorf("only %d matrices have the greatest rank, and %d a lesser one", full, lesser)
	}
}

// rankByMinors returns the greatest number of rows and columns whose determinant is not 0.
func rankByMinors(m impl.Matrix) int {
	rank := 0
	for _, rows := range choicesOf(m.Rows) {
		for _, cols := range choicesOf(m.Cols) {
			if len(rows) == len(cols) && len(rows) > rank && leibniz(m, rows, cols).Sign() != 0 {
				rank = len(rows)
			}
		}
	}
	return rank
}

// choicesOf returns all choices of numbers up to n - 1, each in order.
func choicesOf(n int) [][]int {
	l := make([][]int, 1<<n)
	for word := range l {
		for i := range n {
			if word&(1<<i) != 0 {
				l[word] = append(l[word], i)
			}
		}
	}
	return l
}

func TestIsEchelon(t *testing.T) {
	forms := []impl.Matrix{
		{}, matrix(0, 3), matrix(3, 0), matrix(maxSize, maxSize, make([]int, maxSize*maxSize)...), matrix(1, 1, 0), matrix(1, 1, 1),
		matrix(2, 2, 1, 0, 0, 1), matrix(2, 3, 2, 0, 1, 0, 3, 1), matrix(3, 3, 1, 2, 0, 0, 0, 1, 0, 0, 0), matrix(1, 2, limit, -1), matrix(1, 3, 0, 2, -3),
		matrix(2, 4, limit, 0, 0, 1, 0, 0, limit, 1), matrix(2, 3, 1, 0, limit, 0, 1, -limit), matrix(2, 4, 2, limit, 0, 1, 0, 0, 3, 1), matrix(2, 2, 0, 1, 0, 0),
	}
	for _, m := range forms {
		got, _, ok := impl.EchelonOf(m)
		checkMatrix(t, "the form of a form", got, ok, m)
	}
	refused := map[string]impl.Matrix{
		"a divisor": matrix(1, 2, 2, 4), "a divisor of one cell": matrix(1, 1, 2), "a sign": matrix(1, 1, -1), "a sign of more cells": matrix(1, 3, 0, -1, 2),
		"a divisor in the last row": matrix(2, 3, 1, 0, 0, 0, 2, 4), "a sign in the last row": matrix(2, 2, 1, 0, 0, -1), "a divisor and a sign": matrix(1, 2, -3, 6),
		"zeros on top": matrix(2, 1, 0, 1), "zeros in between": matrix(3, 2, 1, 0, 0, 0, 0, 1), "a cell above a pivot": matrix(2, 2, 1, 1, 0, 1),
		"a cell far above a pivot": matrix(3, 3, 1, 0, 1, 0, 1, 0, 0, 0, 1), "a cell below a pivot": matrix(2, 3, 1, 0, 0, 1, 1, 0), "one column for two": matrix(2, 2, 1, 0, 1, 0),
		"pivots to the left": matrix(2, 2, 0, 1, 1, 0), "pivots to the left below": matrix(3, 3, 1, 0, 0, 0, 0, 1, 0, 1, 0), "great cells": matrix(1, 2, limit, limit),
	}
	checkForms(t, "IsEchelon", impl.IsEchelon, forms, refused)
}

// checkForms compares a check of forms with some that are forms, and with others that are none, each for a reason.
func checkForms(t *testing.T, name string, isForm func(m impl.Matrix) bool, forms []impl.Matrix, refused map[string]impl.Matrix) {
	t.Helper()
	for _, m := range forms {
		if !isForm(m) {
			t.Errorf("%s(%v) = false", name, m)
		}
	}
	for reason, m := range refused {
		if isForm(m) {
			t.Errorf("%s: %s(%v) = true", reason, name, m)
		}
	}
}

func TestFormsAreWhatStays(t *testing.T) {
	checkStays(t, "IsEchelon", impl.IsEchelon, isForm, func(m impl.Matrix) (impl.Matrix, bool, bool) {
		form, _, ok := impl.EchelonOf(m)
		return form, same(form, m), ok
	})
}

// checkStays compares a check of forms with what is a form by words, and with what the way to the form leaves as it is.
func checkStays(t *testing.T, name string, isForm, byWords func(m impl.Matrix) bool, formOf func(m impl.Matrix) (form impl.Matrix, stays, ok bool), more ...impl.Matrix) {
	t.Helper()
	counts := map[bool]int{}
	check := func(m impl.Matrix) {
		t.Helper()
		want := byWords(m)
		counts[want]++
		if isForm(m) != want {
			t.Errorf("%s(%v) = %t", name, m, !want)
		}
		if form, stays, ok := formOf(m); (ok && stays) != want {
			t.Errorf("%s(%v) = %t, and the form is %v, %t", name, m, want, form, ok)
		}
	}
	nearForms(check, func(m impl.Matrix) (impl.Matrix, bool) {
		form, _, ok := formOf(m)
		return form, ok
	})
	for _, m := range more {
		check(m)
	}
	if counts[true] < 500 || counts[false] < 500 {
		t.Errorf("%d matrices are forms, and %d are not", counts[true], counts[false])
	}
}

// nearForms takes all matrices of a few small cells, those of many sizes, and those that differ from a form in one cell.
func nearForms(take func(m impl.Matrix), formOf func(m impl.Matrix) (impl.Matrix, bool)) {
	for word := range 4 * 4 * 4 * 4 {
		take(spelled(2, word, []int{0, 1, -1, 2}))
	}
	for word := range 3 * 3 * 3 * 3 * 3 * 3 * 3 * 3 * 3 {
		take(spelled(3, word, []int{0, 1, -2}))
		take(spelled(3, word, []int{0, 1, 2}))
	}
	for rows := range 4 {
		for cols := range 5 {
			for word := range 1 << (rows * cols) {
				take(built(rows, cols, func(row, col int) int { return word >> (row*cols + col) & 1 }))
			}
		}
	}
	for i, m := range oblongs() {
		take(m)
		form, ok := formOf(m)
		if !ok || i%9 != 0 || len(form.Cells) > 100 {
			continue
		}
		for place := range form.Cells {
			for _, change := range []int{1, -1} {
				near := matrix(form.Rows, form.Cols, slices.Clone(form.Cells)...)
				near.Cells[place] += change
				if max(near.Cells[place], -near.Cells[place]) <= limit {
					take(near)
				}
			}
		}
	}
}

func TestSameSpace(t *testing.T) {
	checkSpaces(t, matrix(1, 2, 2, 4), matrix(2, 2, 1, 2, 3, 6), true, true)
	checkSpaces(t, matrix(1, 2, 2, 4), matrix(1, 2, 2, 5), false, true)
	checkSpaces(t, matrix(1, 2, 1, 2), matrix(2, 2, 1, 2, 0, 1), false, true)
	checkSpaces(t, matrix(2, 2, 1, 2, 3, 4), matrix(2, 2, 1, 0, 0, 1), true, true)
	checkSpaces(t, matrix(1, 2, 1, 2), matrix(1, 2, -2, -4), true, true)
	checkSpaces(t, matrix(1, 2, 1, 2), matrix(1, 2, 1, -2), false, true)
	checkSpaces(t, matrix(0, 3), matrix(2, 3, 0, 0, 0, 0, 0, 0), true, true)
	checkSpaces(t, matrix(0, 3), matrix(1, 3, 0, 0, 1), false, true)
	checkSpaces(t, matrix(2, 0), matrix(5, 0), true, true)
	checkSpaces(t, impl.Matrix{}, impl.Matrix{}, true, true)
	checkSpaces(t, matrix(2, 3, 0, 0, 0, 1, 2, 3), matrix(1, 3, 1, 2, 3), true, true)
	checkSpaces(t, matrix(2, 3, 1, 0, 0, 0, 1, 0), matrix(2, 3, 1, 0, 0, 0, 0, 1), false, true)
	// The spaces are those over the rational numbers, not the lattices.
	checkSpaces(t, matrix(2, 2, 1, 0, 0, 1), matrix(2, 2, 2, 0, 0, 3), true, true)
	// The numbers of columns differ, though the cells do not.
	checkSpaces(t, matrix(1, 2, 2, 4), matrix(1, 1, 1), false, false)
	checkSpaces(t, matrix(1, 2, 1, 0), matrix(1, 3, 1, 0, 0), false, false)
	checkSpaces(t, matrix(0, 2), matrix(0, 3), false, false)
	checkSpaces(t, matrix(2, 3, 0, 0, 0, 0, 0, 0), matrix(3, 2, 0, 0, 0, 0, 0, 0), false, false)
	checkSpaces(t, matrix(2, 0), matrix(0, 2), false, false)
	// One of them fails, though the space is that of the other one.
	fails := matrix(2, 2, 20001, 1, 1, 20001)
	checkSpaces(t, fails, matrix(2, 2, 1, 0, 0, 1), false, false)
	checkSpaces(t, matrix(2, 2, 1, 0, 0, 1), fails, false, false)
	checkSpaces(t, fails, fails, false, false)
	checkSpaces(t, fails, matrix(0, 2), false, false)
}

func TestSpacesAreTheSameIfTheyHoldEachOther(t *testing.T) {
	counts := map[bool]int{}
	rankOf := func(m impl.Matrix) int {
		rows, _ := bySpace(m)
		return len(rows)
	}
	for cols := range 4 {
		for k := range 900 {
			a := mixed(k%4, cols, 2, k)
			b := mixed(k/4%4, cols, 2, k+5000)
			if k%5 == 0 {
				b = matrixOr(impl.MultiplyMatrices(mixed(k/4%4, a.Rows, 2, k+6000), a))
			}
			both := rankOf(matrixOr(impl.StackRows(a, b)))
			want := both == rankOf(a) && both == rankOf(b)
			checkSpaces(t, a, b, want, true)
			checkSpaces(t, b, a, want, true)
			counts[want]++
		}
	}
	if counts[true] < 300 || counts[false] < 300 {
		t.Errorf("%d pairs have the same space, and %d have not", counts[true], counts[false])
	}
}

func TestEchelonsAreThoseOfTheirSpacesAlone(t *testing.T) {
	checked := 0
	for i, m := range oblongs() {
		form, pivots, ok := impl.EchelonOf(m)
		if !ok || i%4 != 0 || m.Rows > 7 {
			continue
		}
		others := []impl.Matrix{}
		add := func(other impl.Matrix, ok bool) {
			if ok {
				others = append(others, other)
			}
		}
		add(impl.ScaleMatrix(m, -3))
		for seed := range 3 {
			if m.Rows >= 2 {
				add(impl.DoRowOps(m, mixedOps(m.Rows, 5+seed, i+seed)))
			}
			// Sums of the rows of the form belong to the space.
			sums, ok := impl.MultiplyMatrices(mixed(2, m.Rows, 2, i+seed), form)
			if ok {
				add(impl.StackRows(m, sums))
				add(impl.StackRows(sums, m))
			}
		}
		for _, other := range others {
			got, columns, fine := impl.EchelonOf(other)
			if !fine {
				continue
			}
			checked++
			rank := len(pivots) * m.Cols
			if !slices.Equal(columns, pivots) || !slices.Equal(got.Cells[:rank], form.Cells[:rank]) {
				t.Errorf("EchelonOf(%v) = %v, but EchelonOf(%v) = %v", m, form, other, got)
			}
			checkSpaces(t, m, other, true, true)
			checkSpaces(t, form, other, true, true)
		}
	}
	if checked < 1000 {
		t.Errorf("only %d matrices were compared", checked)
	}
}

func TestEchelonsShareNoMemory(t *testing.T) {
	for i, arg := range oblongs() {
		if i%3 != 0 {
			continue
		}
		m, whole := spare(arg)
		kept := slices.Clone(whole)
		form, pivots, ok := impl.EchelonOf(m)
		cells, columns := slices.Clone(form.Cells), slices.Clone(pivots)
		impl.RankOf(m)
		impl.IsEchelon(m)
		impl.SameSpace(m, m)
		// What is written into one list shows in no other one, not even behind its end.
		pivots = pivots[:cap(pivots)]
		for place := range pivots {
			pivots[place] = -99
		}
		if !slices.Equal(form.Cells, cells) {
			t.Fatalf("the results for %v share memory", arg)
		}
		written := form.Cells[:cap(form.Cells)]
		for place := range written {
			written[place] = -98
		}
		if slices.Contains(pivots, -98) || !slices.Equal(whole, kept) {
			t.Fatalf("%v was changed, or its memory is that of a result", arg)
		}
		if ok {
			checkEchelon(t, "the same once more", m, matrix(arg.Rows, arg.Cols, cells...), columns...)
		} else {
			checkNoEchelon(t, "the same once more", m)
		}
	}
}
