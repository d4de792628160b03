package tests

import (
	"math/big"
	"slices"
	"testing"

	"loop.example/g03411/impl"
)

const maxMinor = 6

// leibniz returns the sum over all ways to choose a cell from each of the rows, no two of them in one column. It knows no limits.
func leibniz(m impl.Matrix, rows, cols []int) *big.Int {
	sum := new(big.Int)
	var choose func(depth int, left []int, product *big.Int)
	choose = func(depth int, left []int, product *big.Int) {
		if depth == len(rows) {
			sum.Add(sum, product)
			return
		}
		for place, col := range left {
			cell := int64(m.Cells[rows[depth]*m.Cols+col])
			if cell == 0 {
				continue
			}
			if place%2 == 1 {
				cell = -cell
			}
			choose(depth+1, slices.Delete(slices.Clone(left), place, place+1), new(big.Int).Mul(product, big.NewInt(cell)))
		}
	}
	choose(0, cols, big.NewInt(1))
	return sum
}

// numberOf returns what is within the limit as an int.
func numberOf(x *big.Int) (int, bool) {
	if x.CmpAbs(big.NewInt(limit)) > 0 {
		return 0, false
	}
	return int(x.Int64()), true
}

func upTo(n int) []int {
	l := make([]int, n)
	for i := range l {
		l[i] = i
	}
	return l
}

func without(l []int, place int) []int { return slices.Delete(slices.Clone(l), place, place+1) }

// trueDeterminant returns the determinant whatever its size.
func trueDeterminant(m impl.Matrix) *big.Int { return leibniz(m, upTo(m.Rows), upTo(m.Cols)) }

// expanded returns what DeterminantOf is to return for a square matrix: first it finds the choices of columns that are met,
// and then holds the determinant of each to the limit.
func expanded(m impl.Matrix) (int, bool) {
	met, work := map[int]bool{}, [][]int{upTo(m.Cols)}
	for len(work) > 0 {
		cols := work[0]
		work = work[1:]
		word := 0
		for _, col := range cols {
			word |= 1 << col
		}
		if met[word] {
			continue
		}
		met[word] = true
		first := m.Rows - len(cols)
		if _, ok := numberOf(leibniz(m, upTo(m.Rows)[first:], cols)); !ok {
			return 0, false
		}
		for place, col := range cols {
			if m.Cells[first*m.Cols+col] != 0 {
				work = append(work, without(cols, place))
			}
		}
	}
	return numberOf(trueDeterminant(m))
}

// stepped returns what DeterminantBySteps is to return for a square matrix, from another meaning of the cells:
// after step t cell (i, j) is the determinant of the first t + 1 rows and columns with row i and column j.
func stepped(m impl.Matrix) (int, bool) {
	n, sign := m.Rows, int64(1)
	order := upTo(n)
	minor := func(t, i, j int) *big.Int {
		return leibniz(m, append(slices.Clone(order[:t]), order[i]), append(upTo(t), j))
	}
	for t := range n {
		row := t
		for row < n && minor(t, row, t).Sign() == 0 {
			row++
		}
		if row == n {
			return 0, true
		}
		if row > t {
			order[row], order[t] = order[t], order[row]
			sign = -sign
		}
		for i := t + 1; i < n; i++ {
			for j := t + 1; j < n; j++ {
				if _, ok := numberOf(minor(t+1, i, j)); !ok {
					return 0, false
				}
			}
		}
	}
	last := leibniz(m, order, upTo(n))
	return numberOf(last.Mul(last, big.NewInt(sign)))
}

// crossed builds the matrix without a row and a column cell by cell.
func crossed(m impl.Matrix, row, col int) impl.Matrix {
	rows, cols := without(upTo(m.Rows), row), without(upTo(m.Cols), col)
	return built(len(rows), len(cols), func(i, j int) int { return m.Cells[rows[i]*m.Cols+cols[j]] })
}

// adjugate returns what AdjugateOf is to return for a square matrix, as one determinant for each cell.
func adjugate(m impl.Matrix) (impl.Matrix, bool) {
	fine := true
	result := built(m.Cols, m.Rows, func(j, i int) int {
		minor, ok := expanded(crossed(m, i, j))
		fine = fine && ok
		if (i+j)%2 != 0 {
			return -minor
		}
		return minor
	})
	return result, fine
}

// squares holds square matrices of all sizes: small cells, many zeros, rows that depend on each other,
// and cells so great that some determinants are within the limit and others are not.
func squares() []impl.Matrix {
	l := []impl.Matrix{}
	for n := range maxMinor + 1 {
		l = append(l, matrixOr(impl.IdentityMatrix(n)), matrix(n, n, make([]int, n*n)...), mixed(n, n, limit, n))
		for seed := range 16 {
			l = append(l, mixed(n, n, 3, seed), sparse(n, 5, 2, seed), sparse(n, 9, 4, seed), dependent(n, seed))
			for _, bound := range []int{40, 150, 700, 20000, limit} {
				l = append(l, sparse(n, bound, 1, seed), sparse(n, bound, 3, seed), triangle(n, bound, seed), leaning(n, bound, seed))
			}
		}
	}
	return l
}

// sparse returns a square matrix with 0 in place of some cells, the more of them the greater the share is.
func sparse(n, bound, share, seed int) impl.Matrix {
	cells, zeros := mixed(n, n, bound, seed), mixed(n, n, share, seed+1000)
	return built(n, n, func(row, col int) int {
		if zeros.Cells[row*n+col] != 0 {
			return 0
		}
		return cells.Cells[row*n+col]
	})
}

// triangle returns a matrix with zeros on one side of its diagonal, and few cells other than 1 and -1 in the diagonal.
func triangle(n, bound, seed int) impl.Matrix {
	cells, signs := mixed(n, n, bound, seed), mixed(n, n, 8, seed+2000)
	return built(n, n, func(row, col int) int {
		switch {
		case row == col && signs.Cells[row*n+col] == 0:
			return cells.Cells[row*n+col]
		case row == col:
			return max(min(signs.Cells[row*n+col], 1), -1)
		case (row < col) == (seed%2 == 0):
			return cells.Cells[row*n+col]
		}
		return 0
	})
}

// leaning returns a matrix of small rows to which the first row is added many times: the steps take it away again,
// but the determinants of the last rows are great.
func leaning(n, bound, seed int) impl.Matrix {
	m, times := mixed(n, n, 3, seed), mixed(1, n, bound/10, seed+3000)
	return built(n, n, func(row, col int) int {
		if row == 0 {
			return m.Cells[col]
		}
		return m.Cells[row*n+col] + times.Cells[row]*m.Cells[col]
	})
}

// dependent returns a square matrix whose last row is a sum of others, if there are others.
func dependent(n, seed int) impl.Matrix {
	m := mixed(n, n, 9, seed)
	for col := range n {
		sum := 0
		for row := range n - 1 {
			sum += m.Cells[row*n+col] * (row%3 - 1)
		}
		m.Cells[(n-1)*n+col] = sum
	}
	return m
}

// noSquares holds what is no square matrix of at most six rows, be it valid or not.
func noSquares() []impl.Matrix {
	l := append(noMatrices(), matrix(6, 6, make([]int, 35)...), matrix(5, 5, make([]int, 26)...), matrix(7, 7))
	for n := maxMinor + 1; n <= maxSize+1; n++ {
		one := built(n, n, func(row, col int) int { return max(1-max(row-col, col-row), 0) })
		l = append(l, one, matrix(n, n, make([]int, n*n)...))
	}
	for rows := range maxMinor + 2 {
		for cols := range maxMinor + 2 {
			if rows != cols {
				l = append(l, mixed(rows, cols, 9, rows+cols), matrix(rows, cols, make([]int, rows*cols)...))
			}
		}
	}
	return l
}

func checkNumber(t *testing.T, name string, m impl.Matrix, got int, ok bool, want int, fine bool) {
	t.Helper()
	if got != want || ok != fine {
		t.Errorf("%s(%v) = %d, %t, want %d, %t", name, m, got, ok, want, fine)
	}
}

// checkRoads compares both determinants of a square matrix with those found in other ways.
func checkRoads(t *testing.T, m impl.Matrix) {
	t.Helper()
	want, fine := expanded(m)
	got, ok := impl.DeterminantOf(m)
	checkNumber(t, "DeterminantOf", m, got, ok, want, fine)
	want, fine = stepped(m)
	got, ok = impl.DeterminantBySteps(m)
	checkNumber(t, "DeterminantBySteps", m, got, ok, want, fine)
}

func TestIsSquare(t *testing.T) {
	if impl.MaxMinor != maxMinor {
		t.Errorf("MaxMinor is %d, want %d", impl.MaxMinor, maxMinor)
	}
	for _, m := range squares() {
		if !impl.IsSquare(m) {
			t.Errorf("IsSquare(%v) = false", m)
		}
	}
	for _, m := range noSquares() {
		if impl.IsSquare(m) {
			t.Errorf("IsSquare(%v) = true", m)
		}
	}
	for rows := -2; rows <= maxSize+2; rows++ {
		for cols := -2; cols <= maxSize+2; cols++ {
			want := rows == cols && rows >= 0 && rows <= maxMinor
			if got := impl.IsSquare(matrix(rows, cols, make([]int, max(rows*cols, 0))...)); got != want {
				t.Errorf("IsSquare of %d rows and %d columns = %t", rows, cols, got)
			}
		}
	}
}

func TestWithoutCross(t *testing.T) {
	a := matrix(3, 3, 0, 1, 2, 1, 0, 3, 4, -3, 8)
	got, ok := impl.WithoutCross(a, 0, 1)
	checkMatrix(t, "without row 0 and column 1", got, ok, matrix(2, 2, 1, 3, 4, 8))
	got, ok = impl.WithoutCross(a, 2, 0)
	checkMatrix(t, "without row 2 and column 0", got, ok, matrix(2, 2, 1, 2, 0, 3))
	got, ok = impl.WithoutCross(matrix(1, 3, 1, 2, 3), 0, 1)
	checkMatrix(t, "without the only row", got, ok, matrix(0, 2))
	got, ok = impl.WithoutCross(matrix(3, 1, 1, 2, 3), 2, 0)
	checkMatrix(t, "without the only column", got, ok, matrix(2, 0))
	// It is not restricted to a square matrix, or to MaxMinor.
	for _, m := range append(someMatrices(), mixed(maxSize, 2, 9, 1), mixed(2, maxSize, 9, 2), mixed(7, 7, 9, 3)) {
		for row := -2; row <= m.Rows+2; row++ {
			for col := -2; col <= m.Cols+2; col++ {
				got, ok := impl.WithoutCross(m, row, col)
				if row < 0 || row >= m.Rows || col < 0 || col >= m.Cols {
					checkNoMatrix(t, "without a row or column that is not there", got, ok)
				} else {
					checkMatrix(t, "without a row and a column", got, ok, crossed(m, row, col))
				}
			}
		}
		for _, n := range beyond {
			got, ok := impl.WithoutCross(m, n, 0)
			checkNoMatrix(t, "without a row beyond all", got, ok)
			got, ok = impl.WithoutCross(m, 0, n)
			checkNoMatrix(t, "without a column beyond all", got, ok)
		}
	}
	for _, m := range noMatrices() {
		for row := -1; row <= 2; row++ {
			for col := -1; col <= 2; col++ {
				got, ok := impl.WithoutCross(m, row, col)
				checkNoMatrix(t, "WithoutCross of a matrix that is not valid", got, ok)
			}
		}
	}
	// What is not valid is left out.
	got, ok = impl.WithoutCross(matrix(2, 2, limit+1, 0, 0, 1), 0, 0)
	checkNoMatrix(t, "WithoutCross of a cell beyond the limit", got, ok)
}

func TestDeterminants(t *testing.T) {
	cases := []struct {
		m    impl.Matrix
		want int
	}{
		{matrix(0, 0), 1},
		{matrix(1, 1, -7), -7},
		{matrix(1, 1, 0), 0},
		{matrix(2, 2, 1, 2, 3, 4), -2},
		{matrix(3, 3, 0, 1, 2, 1, 0, 3, 4, -3, 8), -2},
		{matrix(3, 3, 2, -1, 0, -1, 2, -1, 0, -1, 2), 4},
		{matrix(3, 3, 1, 2, 3, 4, 5, 6, 7, 8, 9), 0},
		{matrix(4, 4, 0, 0, 0, 2, 0, 0, 3, 0, 0, 5, 0, 0, 7, 0, 0, 0), 210},
		{matrix(5, 5, 0, 1, 0, 0, 0, 0, 0, 1, 0, 0, 0, 0, 0, 1, 0, 0, 0, 0, 0, 1, 1, 0, 0, 0, 0), 1},
		{matrix(6, 6, 2, 1, 0, 0, 0, 0, 1, 2, 1, 0, 0, 0, 0, 1, 2, 1, 0, 0, 0, 0, 1, 2, 1, 0, 0, 0, 0, 1, 2, 1, 0, 0, 0, 0, 1, 2), 7},
	}
	for _, c := range cases {
		got, ok := impl.DeterminantOf(c.m)
		checkNumber(t, "DeterminantOf", c.m, got, ok, c.want, true)
		got, ok = impl.DeterminantBySteps(c.m)
		checkNumber(t, "DeterminantBySteps", c.m, got, ok, c.want, true)
	}
	for n := range maxMinor + 1 {
		// Each way to choose one cell from each row is the only product that is not 0.
		for _, order := range permutationsOf(n) {
			swaps := 0
			for i := range n {
				for j := range i {
					if order[j] > order[i] {
						swaps++
					}
				}
			}
			m := built(n, n, func(row, col int) int {
				if order[row] == col {
					return row + 2
				}
				return 0
			})
			want := 1 - swaps%2*2
			for row := range n {
				want *= row + 2
			}
			got, ok := impl.DeterminantOf(m)
			checkNumber(t, "DeterminantOf", m, got, ok, want, true)
			got, ok = impl.DeterminantBySteps(m)
			checkNumber(t, "DeterminantBySteps", m, got, ok, want, true)
		}
	}
}

// permutationsOf returns all orders of the numbers from 0 to n - 1.
func permutationsOf(n int) [][]int {
	if n == 0 {
		return [][]int{{}}
	}
	var l [][]int
	for _, order := range permutationsOf(n - 1) {
		for place := range n {
			l = append(l, slices.Insert(slices.Clone(order), place, n-1))
		}
	}
	return l
}

func TestDeterminantsAgreeByAllRoads(t *testing.T) {
	counts := map[[2]bool]int{}
	for _, m := range squares() {
		checkRoads(t, m)
		a, fineA := impl.DeterminantOf(m)
		b, fineB := impl.DeterminantBySteps(m)
		counts[[2]bool{fineA, fineB}]++
		if fineA && fineB && a != b {
			t.Errorf("the determinants of %v are %d and %d", m, a, b)
		}
		want, within := numberOf(trueDeterminant(m))
		if fineA && (!within || a != want) || fineB && (!within || b != want) {
			t.Errorf("the determinants of %v are %d and %d, want %d", m, a, b, want)
		}
	}
	for _, roads := range [][2]bool{{true, true}, {true, false}, {false, true}, {false, false}} {
		if counts[roads] < 10 {
			t.Errorf("only %d matrices have roads that end like %v", counts[roads], roads)
		}
	}
	// All matrices with these cells: every place of zeros is among them.
	for word := range 3 * 3 * 3 * 3 {
		checkRoads(t, spelled(2, word, []int{0, 1, -2}))
	}
	for word := range 1 << 9 {
		checkRoads(t, spelled(3, word, []int{0, 1}))
		checkRoads(t, spelled(3, word, []int{0, 30000}))
		checkRoads(t, spelled(3, word, []int{1, -20001}))
	}
	for word := range 1 << 16 {
		if word%7 == 0 {
			checkRoads(t, spelled(4, word, []int{0, 2}))
			checkRoads(t, spelled(4, word, []int{0, 800}))
		}
	}
}

// spelled returns the square matrix whose cells are the digits of a word, each standing for a number.
func spelled(n, word int, digits []int) impl.Matrix {
	return built(n, n, func(int, int) int {
		digit := word % len(digits)
		word /= len(digits)
		return digits[digit]
	})
}

func TestPivotIsZero(t *testing.T) {
	cases := []struct {
		name string
		m    impl.Matrix
		want int
	}{
		{"the next row is taken", matrix(2, 2, 0, 1, 5, 0), -5},
		{"the last row is taken", matrix(3, 3, 0, 1, 0, 0, 0, 1, 1, 0, 0), 1},
		{"two swaps leave the sign", matrix(4, 4, 0, 2, 0, 0, 2, 0, 0, 0, 0, 0, 0, 2, 0, 0, 2, 0), 16},
		{"a pivot that becomes 0", matrix(3, 3, 1, 2, 3, 1, 2, 4, 1, 3, 3), -1},
		{"a last pivot that becomes 0", matrix(2, 2, 2, 3, 4, 6), 0},
		{"a column of zeros at first", matrix(2, 2, 0, 1, 0, 5), 0},
		{"a column of zeros in between", matrix(3, 3, 1, 0, 2, 3, 0, 4, 5, 0, 7), 0},
		{"a column that becomes zeros in between", matrix(3, 3, 1, 2, 0, 2, 4, 1, 3, 6, 1), 0},
		{"a column of zeros at last", matrix(3, 3, 1, 2, 0, 3, 4, 0, 5, 7, 0), 0},
		{"zeros alone", matrix(6, 6, make([]int, 36)...), 0},
		{"a row of zeros", matrix(3, 3, 1, 2, 3, 0, 0, 0, 4, 5, 6), 0},
		{"the only cell is 0", matrix(1, 1, 0), 0},
		// A column of zeros ends the steps, so nothing is made from the great cells behind it.
		{"great cells behind a column of zeros", matrix(3, 3, 0, limit, limit, 0, limit, -limit, 0, 1, limit), 0},
	}
	for _, c := range cases {
		if got, ok := impl.DeterminantBySteps(c.m); got != c.want || !ok {
			t.Errorf("%s: DeterminantBySteps(%v) = %d, %t, want %d, true", c.name, c.m, got, ok, c.want)
		}
		checkRoads(t, c.m)
	}
	// What is made before the column of zeros is held to the limit all the same.
	m := matrix(3, 3, 20001, 0, 1, 1, 0, 20001, 1, 0, 5)
	got, ok := impl.DeterminantBySteps(m)
	checkNumber(t, "DeterminantBySteps", m, got, ok, 0, false)
	for n := range maxMinor + 1 {
		for seed := range 30 {
			m := mixed(n, n, 9, seed)
			for row := range n {
				// The pivot of each step is 0 until a later row comes.
				for col := range min(n-1-row, n) {
					m.Cells[row*n+col] = 0
				}
			}
			checkRoads(t, m)
		}
	}
}

func TestFirstRowWithPivotIsTaken(t *testing.T) {
	// Only if the row with the 1 comes first, all cells that are made are within the limit.
	cases := []struct {
		m    impl.Matrix
		want int
		fine bool
	}{
		{matrix(3, 3, 0, 20000, 1, 1, 0, 0, 20001, 1, 0), 1, true},
		{matrix(3, 3, 0, 20000, 1, 20001, 1, 0, 1, 0, 0), 0, false},
		{matrix(4, 4, 1, 0, 0, 0, 0, 0, 20000, 1, 0, 1, 0, 0, 0, 20001, 1, 0), 1, true},
		{matrix(4, 4, 1, 0, 0, 0, 0, 0, 20000, 1, 0, 20001, 1, 0, 0, 1, 0, 0), 0, false},
		{matrix(4, 4, 0, 20000, 1, 0, 0, 3, 1, 1, 1, 0, 0, 0, 20001, 1, 0, 0), 1, true},
		{matrix(4, 4, 0, 20000, 1, 0, 0, 3, 1, 1, 20001, 1, 0, 0, 1, 0, 0, 0), 0, false},
	}
	for _, c := range cases {
		got, ok := impl.DeterminantBySteps(c.m)
		checkNumber(t, "DeterminantBySteps", c.m, got, ok, c.want, c.fine)
		checkRoads(t, c.m)
	}
}

func TestDeterminantLimits(t *testing.T) {
	cases := []struct {
		name          string
		m             impl.Matrix
		want          int
		expands, goes bool
	}{
		{"at the limit", matrix(1, 1, limit), limit, true, true},
		{"at the negative limit", matrix(1, 1, -limit), -limit, true, true},
		{"a product at the limit", matrix(2, 2, 20000, 7, 0, 20000), limit, true, true},
		{"a product at the negative limit", matrix(2, 2, 0, 20000, 20000, 7), -limit, true, true},
		{"a product beyond the limit", matrix(2, 2, 20000, 7, 0, 20001), 0, false, false},
		{"next to the limit", matrix(2, 2, 20000, 1, -1, 20000), 0, false, false},
		{"next to the negative limit", matrix(2, 2, 1, 20000, 20000, -1), 0, false, false},
		{"just within the limit", matrix(2, 2, 20000, 1, 1, 20000), limit - 1, true, true},
		{"the greatest of two rows", matrix(2, 2, limit, -limit, limit, limit), 0, false, false},
		// Sums on the way are not held to the limit.
		{"sums beyond the limit on the way", matrix(2, 2, limit, limit, limit, limit), 0, true, true},
		{"sums beyond the limit from left to right", matrix(3, 3, limit, limit, limit, 1, 1, 0, 0, 1, 1), limit, true, true},
		// A determinant beyond the limit fails even if that of the whole is within it.
		{"one that is met is beyond the limit", matrix(3, 3, 1, 1, 0, limit, limit, -1, 0, 1, 1), 1, false, true},
		{"two that are met are beyond the limit", matrix(3, 3, 1, 1, 0, limit, limit, -2, 0, 1, 2), 2, false, true},
		// Where the cell is 0, it is not followed.
		{"the first one is not followed", matrix(3, 3, 0, 1, 1, 5, 20001, 0, 0, 0, 20001), -100005, true, true},
		{"the others are not followed", matrix(3, 3, 0, 0, 1, 1, 0, limit, 0, 1, limit), 1, true, true},
		{"one below that is not followed", matrix(4, 4, 0, 0, 0, 1, 1, 0, 0, 7, 0, 1, 30000, 30000, 0, 0, 1, -30000), -1, true, true},
		{"one that is followed", matrix(3, 3, 1, 0, 0, 0, 30000, 1, 0, 1, 30000), 0, false, false},
		{"a first row and a first column of zeros", matrix(3, 3, 0, 0, 0, 0, 30000, 1, 0, 1, 30000), 0, true, true},
		{"a first row of zeros", matrix(3, 3, 0, 0, 0, 30000, 30000, 1, 30000, -30000, 1), 0, true, false},
	}
	for _, c := range cases {
		checkRoads(t, c.m)
		want := [2]int{}
		if c.expands {
			want[0] = c.want
		}
		if c.goes {
			want[1] = c.want
		}
		a, fineA := impl.DeterminantOf(c.m)
		b, fineB := impl.DeterminantBySteps(c.m)
		if a != want[0] || fineA != c.expands || b != want[1] || fineB != c.goes {
			t.Errorf("%s: %v has %d, %t by expansion and %d, %t by steps, want %v, %t, %t", c.name, c.m, a, fineA, b, fineB, want, c.expands, c.goes)
		}
	}
	// The greatest sums on the way of all do not wrap around.
	for n := range maxMinor + 1 {
		for place := range n {
			m := matrix(n, n, slices.Repeat([]int{limit}, n*n)...)
			m.Cells[place*n] = -limit
			checkRoads(t, m)
			m = matrixOr(impl.TransposeOf(m))
			checkRoads(t, m)
		}
	}
	// All that are met in the first row are at the limit, and so are its cells: the sums on the way are the greatest of all.
	for n := 2; n <= maxMinor; n++ {
		m := built(n, n, func(row, col int) int {
			switch {
			case row == 0 && col < n/2:
				return limit
			case row == 0:
				return -limit
			case col == row-1 && row == 1:
				return limit
			case col == row && row == 1:
				return -limit
			case col == row-1:
				return 1
			case col == row:
				return -1
			}
			return 0
		})
		if n%2 == 1 {
			m.Cells[n-1] = 0
		}
		checkRoads(t, m)
		got, ok := impl.DeterminantOf(m)
		checkNumber(t, "DeterminantOf", m, got, ok, 0, true)
		m.Cells[n-1]++
		checkRoads(t, m)
		got, ok = impl.DeterminantOf(m)
		checkNumber(t, "DeterminantOf", m, max(got, -got), ok, limit, true)
		m.Cells[n-1]++
		checkRoads(t, m)
		got, ok = impl.DeterminantOf(m)
		checkNumber(t, "DeterminantOf", m, got, ok, 0, false)
	}
}

func TestDeterminantsRefuse(t *testing.T) {
	for _, m := range noSquares() {
		got, ok := impl.DeterminantOf(m)
		checkNumber(t, "DeterminantOf", m, got, ok, 0, false)
		got, ok = impl.DeterminantBySteps(m)
		checkNumber(t, "DeterminantBySteps", m, got, ok, 0, false)
		adjugate, ok := impl.AdjugateOf(m)
		checkNoMatrix(t, "AdjugateOf what is not square", adjugate, ok)
		inverse, ok := impl.InverseOf(m)
		checkNoMatrix(t, "InverseOf what is not square", inverse, ok)
		if impl.IsUnimodular(m) {
			t.Errorf("IsUnimodular(%v) = true", m)
		}
	}
	// The determinant of these would be within the limit.
	for _, m := range []impl.Matrix{matrix(2, 2, limit+1, 0, 0, 0), matrix(2, 2, 1, limit+1, 0, 1), matrix(1, 1, 1, 1), matrix(0, 0, 1)} {
		got, ok := impl.DeterminantOf(m)
		checkNumber(t, "DeterminantOf", m, got, ok, 0, false)
		got, ok = impl.DeterminantBySteps(m)
		checkNumber(t, "DeterminantBySteps", m, got, ok, 0, false)
	}
}

func TestDeterminantsMultiply(t *testing.T) {
	roads := []func(impl.Matrix) (int, bool){impl.DeterminantOf, impl.DeterminantBySteps}
	for n := range maxMinor + 1 {
		for seed := range 25 {
			a, b := mixed(n, n, 3, seed), mixed(n, n, 2, seed+500)
			product, turned := matrixOr(impl.MultiplyMatrices(a, b)), matrixOr(impl.TransposeOf(a))
			for _, road := range roads {
				detA, fineA := road(a)
				detB, fineB := road(b)
				both, fine := road(product)
				if !fineA || !fineB || !fine || both != detA*detB {
					t.Errorf("the determinants of %v, %v and the product are %d, %d and %d", a, b, detA, detB, both)
				}
				if other, ok := road(turned); !ok || other != detA {
					t.Errorf("the determinant of %v is %d, and %d when it is turned over", a, detA, other)
				}
			}
		}
	}
	for rows := 1; rows <= maxMinor; rows++ {
		m := mixed(rows, rows, 3, rows)
		for _, x := range opsOf(rows, 0, 1, -1, 4) {
			factor := -1
			if x.Kind == opAdd {
				factor = 1
			}
			for _, road := range roads {
				before, fine := road(m)
				after, ok := road(matrixOr(impl.DoRowOp(m, x)))
				op, known := road(matrixOr(impl.OpMatrix(x, rows)))
				if !fine || !ok || !known || op != factor || after != factor*before {
					t.Errorf("%v makes the determinant %d of %v to %d, and has %d itself", x, before, m, after, op)
				}
			}
		}
	}
}

func TestAdjugateOf(t *testing.T) {
	cases := []struct{ m, want impl.Matrix }{
		{matrix(0, 0), matrix(0, 0)},
		{matrix(1, 1, 7), matrix(1, 1, 1)},
		{matrix(1, 1, 0), matrix(1, 1, 1)},
		{matrix(1, 1, -limit), matrix(1, 1, 1)},
		{matrix(2, 2, 1, 2, 3, 4), matrix(2, 2, 4, -2, -3, 1)},
		{matrix(3, 3, 1, 2, 3, 0, 1, 4, 5, 6, 0), matrix(3, 3, -24, 18, 5, 20, -15, -4, -5, 4, 1)},
		{matrix(2, 2, 0, 0, 0, 0), matrix(2, 2, 0, 0, 0, 0)},
		{matrix(3, 3, 1, 0, 0, 0, 1, 0, 0, 0, 0), matrix(3, 3, 0, 0, 0, 0, 0, 0, 0, 0, 1)},
		// Neither the determinant nor what is not asked for needs to be within the limit.
		{matrix(2, 2, limit, -limit, limit, limit), matrix(2, 2, limit, limit, -limit, limit)},
		{matrix(3, 3, 20000, 0, 0, 0, 20000, 0, 0, 0, 20000), matrix(3, 3, limit, 0, 0, 0, limit, 0, 0, 0, limit)},
	}
	for _, c := range cases {
		got, ok := impl.AdjugateOf(c.m)
		checkMatrix(t, "an adjugate", got, ok, c.want)
	}
	made, failed := 0, 0
	for i, m := range squares() {
		if m.Rows == maxMinor && i%3 != 0 {
			continue
		}
		got, ok := impl.AdjugateOf(m)
		want, fine := adjugate(m)
		if !fine {
			failed++
			checkNoMatrix(t, "an adjugate beyond the limit", got, ok)
			continue
		}
		made++
		checkMatrix(t, "an adjugate", got, ok, want)
		checkAdjugateTimes(t, m, got)
	}
	if made < 100 || failed < 100 {
		t.Errorf("%d adjugates were made, and %d failed", made, failed)
	}
}

// checkAdjugateTimes checks that a matrix times its adjugate is its determinant times the identity matrix, on both sides.
func checkAdjugateTimes(t *testing.T, m, adjugate impl.Matrix) {
	t.Helper()
	determinant, within := numberOf(trueDeterminant(m))
	if !within {
		return
	}
	want := matrixOr(impl.ScaleMatrix(matrixOr(impl.IdentityMatrix(m.Rows)), determinant))
	got, ok := impl.MultiplyMatrices(m, adjugate)
	checkMatrix(t, "a matrix times its adjugate", got, ok, want)
	got, ok = impl.MultiplyMatrices(adjugate, m)
	checkMatrix(t, "an adjugate times its matrix", got, ok, want)
}

func TestAdjugateIsAsDeterminantOf(t *testing.T) {
	// Each cell is what the exported functions tell, and where one of them fails, all of it does.
	for i, m := range squares() {
		if i%4 != 0 {
			continue
		}
		fine := true
		want := built(m.Cols, m.Rows, func(j, i int) int {
			minor, ok := impl.DeterminantOf(matrixOr(impl.WithoutCross(m, i, j)))
			fine = fine && ok
			return minor * (1 - (i+j)%2*2)
		})
		got, ok := impl.AdjugateOf(m)
		if fine {
			checkMatrix(t, "an adjugate by its cells", got, ok, want)
		} else {
			checkNoMatrix(t, "an adjugate with a cell that fails", got, ok)
		}
	}
	// The place of the only determinant that fails does not matter.
	for place := range 9 {
		m := matrix(3, 3, make([]int, 9)...)
		rows, cols := without(upTo(3), place/3), without(upTo(3), place%3)
		for k := range 2 {
			m.Cells[rows[k]*3+cols[k]] = 20001
		}
		got, ok := impl.AdjugateOf(m)
		checkNoMatrix(t, "one determinant beyond the limit", got, ok)
	}
	// It is the expansion that counts: without row 0 and column 0 the determinant is 1, but one that is met is not within the limit.
	m := matrix(4, 4, make([]int, 16)...)
	for i, cell := range []int{1, 1, 0, limit, limit, -1, 0, 1, 1} {
		m.Cells[(i/3+1)*4+i%3+1] = cell
	}
	got, ok := impl.AdjugateOf(m)
	checkNoMatrix(t, "a determinant that is met is beyond the limit", got, ok)
}

// units returns unimodular matrices of all sizes: products of row operations.
func units() []impl.Matrix {
	l := []impl.Matrix{matrix(0, 0), matrix(1, 1, 1), matrix(1, 1, -1), matrix(2, 2, 2, 1, 1, 1), matrix(2, 2, 0, 1, 1, 0), matrix(2, 2, 1, limit, 0, -1)}
	for rows := 2; rows <= maxMinor; rows++ {
		for seed := range 30 {
			l = append(l, matrixOr(impl.DoRowOps(matrixOr(impl.IdentityMatrix(rows)), mixedOps(rows, seed%13, seed))))
		}
	}
	return l
}

func TestIsUnimodular(t *testing.T) {
	for _, m := range units() {
		if !impl.IsUnimodular(m) {
			t.Errorf("IsUnimodular(%v) = false", m)
		}
	}
	for _, m := range squares() {
		determinant, ok := expanded(m)
		if want := ok && (determinant == 1 || determinant == -1); impl.IsUnimodular(m) != want {
			t.Errorf("IsUnimodular(%v) = %t", m, !want)
		}
	}
	for _, m := range []impl.Matrix{matrix(1, 1, 0), matrix(1, 1, 2), matrix(1, 1, -2), matrix(1, 1, limit), matrix(2, 2, 2, 0, 0, 1), matrix(2, 2, 1, 1, 1, 1)} {
		if impl.IsUnimodular(m) {
			t.Errorf("IsUnimodular(%v) = true", m)
		}
	}
	// The determinant is 1, but DeterminantOf fails.
	m := matrix(3, 3, 1, 1, 0, limit, limit, -1, 0, 1, 1)
	if got, ok := impl.DeterminantBySteps(m); got != 1 || !ok || impl.IsUnimodular(m) {
		t.Errorf("IsUnimodular(%v) = true", m)
	}
}

func TestInverseOf(t *testing.T) {
	cases := []struct{ m, want impl.Matrix }{
		{matrix(0, 0), matrix(0, 0)},
		{matrix(1, 1, 1), matrix(1, 1, 1)},
		{matrix(1, 1, -1), matrix(1, 1, -1)},
		{matrix(2, 2, 2, 1, 1, 1), matrix(2, 2, 1, -1, -1, 2)},
		{matrix(2, 2, 1, 2, 2, 3), matrix(2, 2, -3, 2, 2, -1)},
		{matrix(2, 2, 1, limit, 0, 1), matrix(2, 2, 1, -limit, 0, 1)},
		{matrix(2, 2, 1, limit, 0, -1), matrix(2, 2, 1, limit, 0, -1)},
		{matrix(3, 3, 0, 0, 1, 1, 0, 0, 0, 1, 0), matrix(3, 3, 0, 1, 0, 0, 0, 1, 1, 0, 0)},
		{matrix(3, 3, 1, 20000, 0, 0, 1, 20000, 0, 0, 1), matrix(3, 3, 1, -20000, limit, 0, 1, -20000, 0, 0, 1)},
	}
	for _, c := range cases {
		got, ok := impl.InverseOf(c.m)
		checkMatrix(t, "an inverse", got, ok, c.want)
	}
	for _, m := range units() {
		one := matrixOr(impl.IdentityMatrix(m.Rows))
		inverse, ok := impl.InverseOf(m)
		if !ok {
			t.Errorf("InverseOf(%v) fails", m)
			continue
		}
		got, ok := impl.MultiplyMatrices(m, inverse)
		checkMatrix(t, "a matrix times its inverse", got, ok, one)
		got, ok = impl.MultiplyMatrices(inverse, m)
		checkMatrix(t, "an inverse times its matrix", got, ok, one)
		got, ok = impl.InverseOf(inverse)
		checkMatrix(t, "the inverse of an inverse", got, ok, m)
	}
	for rows := 2; rows <= maxMinor; rows++ {
		for _, x := range opsOf(rows, 1, -5, limit) {
			got, ok := impl.InverseOf(matrixOr(impl.OpMatrix(x, rows)))
			checkMatrix(t, "the inverse of an operation", got, ok, matrixOr(impl.OpMatrix(impl.UndoRowOp(x), rows)))
		}
	}
}

func TestInverseOfRefuses(t *testing.T) {
	for _, m := range squares() {
		determinant, ok := expanded(m)
		got, fine := impl.InverseOf(m)
		if !ok || determinant != 1 && determinant != -1 {
			checkNoMatrix(t, "an inverse of what is not unimodular", got, fine)
			continue
		}
		want, fits := adjugate(m)
		if !fits {
			checkNoMatrix(t, "an inverse whose adjugate fails", got, fine)
			continue
		}
		checkMatrix(t, "an inverse", got, fine, matrixOr(impl.ScaleMatrix(want, determinant)))
	}
	// These are unimodular, and only the adjugate is beyond the limit.
	for _, cells := range [][]int{{1, 20001, 0, 0, 1, 20001, 0, 0, 1}, {-1, 20001, 0, 0, 1, 20001, 0, 0, 1}, {1, 0, 0, 20001, 1, 0, 0, 20001, 1}} {
		m := matrix(3, 3, cells...)
		if !impl.IsUnimodular(m) {
			t.Errorf("IsUnimodular(%v) = false", m)
		}
		got, ok := impl.AdjugateOf(m)
		checkNoMatrix(t, "an adjugate beyond the limit", got, ok)
		got, ok = impl.InverseOf(m)
		checkNoMatrix(t, "an inverse beyond the limit", got, ok)
	}
	for _, m := range []impl.Matrix{matrix(2, 2, 2, 0, 0, 1), matrix(2, 2, 1, 1, 1, 1), matrix(1, 1, 0), matrix(2, 2, limit, 0, 0, limit)} {
		got, ok := impl.InverseOf(m)
		checkNoMatrix(t, "an inverse of what is not unimodular", got, ok)
	}
	// The inverse would be within the limit, but DeterminantOf fails.
	got, ok := impl.InverseOf(matrix(3, 3, 1, 1, 0, limit, limit, -1, 0, 1, 1))
	checkNoMatrix(t, "an inverse without a determinant", got, ok)
}

func TestDeterminantsShareNoMemory(t *testing.T) {
	args := []impl.Matrix{matrix(0, 0), matrix(1, 1, -1), matrix(2, 2, 0, 1, 1, 0), matrix(3, 3, 0, 1, 2, 1, 0, 3, 4, -3, 8), mixed(6, 6, 3, 1), matrix(2, 3, 1, 2, 3, 4, 5, 6)}
	for _, arg := range append(args, units()...) {
		m, whole := spare(arg)
		kept := slices.Clone(whole)
		check := func(result impl.Matrix) {
			t.Helper()
			cells := result.Cells[:cap(result.Cells)]
			for i := range cells {
				cells[i] = -99
			}
			if !slices.Equal(whole, kept) {
				t.Fatalf("%v was changed, or its memory is that of a result", arg)
			}
		}
		for range 2 {
			det, fine := impl.DeterminantOf(m)
			steps, ok := impl.DeterminantBySteps(m)
			if det != steps || fine != ok || fine != (m.Rows == m.Cols) {
				t.Errorf("the determinants of %v are %d, %t and %d, %t", m, det, fine, steps, ok)
			}
			check(impl.Matrix{})
			adjugate, _ := impl.AdjugateOf(m)
			check(adjugate)
			inverse, _ := impl.InverseOf(m)
			check(inverse)
			left, _ := impl.WithoutCross(m, 0, m.Cols-1)
			check(left)
			impl.IsUnimodular(m)
			impl.IsSquare(m)
			check(impl.Matrix{})
		}
	}
}
