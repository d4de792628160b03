package tests

import (
	"math"
	"slices"
	"testing"

	"loop.example/g03411/impl"
)

const maxSize = 24

func matrix(rows, cols int, cells ...int) impl.Matrix {
	return impl.Matrix{Rows: rows, Cols: cols, Cells: cells}
}

// built returns the matrix with the cells that the function gives for their places.
func built(rows, cols int, cellAt func(row, col int) int) impl.Matrix {
	m := matrix(rows, cols)
	for row := range rows {
		for col := range cols {
			m.Cells = append(m.Cells, cellAt(row, col))
		}
	}
	return m
}

// mixed returns a matrix of cells from -bound to bound that look mixed, but are the same in every run.
func mixed(rows, cols, bound, seed int) impl.Matrix {
	state := uint32(seed)*2654435761 + uint32(rows*31+cols)
	return built(rows, cols, func(int, int) int {
		state = state*1664525 + 1013904223
		return int(state>>4)%(2*bound+1) - bound
	})
}

// same compares without the program's own function, so that a fault there hides none elsewhere.
func same(a, b impl.Matrix) bool {
	return a.Rows == b.Rows && a.Cols == b.Cols && slices.Equal(a.Cells, b.Cells)
}

// noMatrices holds sizes out of range, counts of cells that the sizes do not tell, and cells beyond the limit.
func noMatrices() []impl.Matrix {
	l := []impl.Matrix{
		matrix(-1, 0), matrix(0, -1), matrix(-1, -1), matrix(-1, -1, 1), matrix(-2, -1, 1, 2), matrix(-1, 1), matrix(1, -1),
		matrix(maxSize+1, 0), matrix(0, maxSize+1), matrix(maxSize+1, 1, make([]int, maxSize+1)...), matrix(1, maxSize+1, make([]int, maxSize+1)...),
		matrix(0, 0, 1), matrix(0, 3, 1), matrix(3, 0, 1), matrix(1, 1), matrix(1, 2, 1), matrix(2, 1, 1), matrix(2, 2, 1, 2, 3),
		matrix(2, 2, 1, 2, 3, 4, 5), matrix(1, 1, 1, 2), matrix(1<<32, 1<<32), matrix(1<<63-1, 1<<63-1, 1), matrix(math.MinInt, 2), matrix(2, math.MinInt),
		matrix(math.MinInt, math.MinInt), matrix(math.MaxInt, 0), matrix(0, math.MaxInt), matrix(math.MinInt, 0), matrix(0, math.MinInt),
	}
	for _, x := range beyond {
		l = append(l, matrix(1, 1, x), matrix(2, 2, x, 0, 0, 0), matrix(2, 2, 0, 0, 0, x), matrix(1, 3, 0, x, 0))
	}
	return l
}

// someMatrices holds matrices of all kinds of sizes, without rows or columns among them, with small cells and with cells at the limits.
func someMatrices() []impl.Matrix {
	l := []impl.Matrix{
		{}, matrix(1, 1, 0), matrix(1, 1, limit), matrix(1, 1, -limit), matrix(2, 2, 1, 2, 3, -4), matrix(2, 2, limit, -limit, -limit, limit),
		matrix(0, maxSize), matrix(maxSize, 0), matrix(1, 3, 20000, -20000, 1), matrix(3, 1, 20000, 20000, 0), matrix(2, 3, 1, 0, -1, 2, limit, 5),
		mixed(maxSize, maxSize, 3, 1), mixed(maxSize, maxSize, limit, 2), mixed(1, maxSize, 9, 3), mixed(maxSize, 1, 9, 4), mixed(7, 5, 100, 5),
	}
	for rows := range 4 {
		for cols := range 4 {
			l = append(l, mixed(rows, cols, 9, rows+1), mixed(rows, cols, 30000, rows+2))
		}
	}
	return l
}

// checkMatrix compares a result with the one expected; none is expected if its size or a cell is out of range.
func checkMatrix(t *testing.T, name string, got impl.Matrix, ok bool, want impl.Matrix) {
	t.Helper()
	beyondLimit := slices.ContainsFunc(want.Cells, func(n int) bool { return n < -limit || n > limit })
	if beyondLimit || want.Rows > maxSize || want.Cols > maxSize {
		checkNoMatrix(t, name, got, ok)
	} else if !ok || !same(got, want) {
		t.Errorf("%s = %v, %t, want %v, true", name, got, ok, want)
	}
}

func checkNoMatrix(t *testing.T, name string, got impl.Matrix, ok bool) {
	t.Helper()
	if ok || !same(got, impl.Matrix{}) {
		t.Errorf("%s = %v, %t, want the zero Matrix and false", name, got, ok)
	}
}

func TestIsMatrix(t *testing.T) {
	if impl.MaxSize != maxSize {
		t.Errorf("MaxSize is %d, want %d", impl.MaxSize, maxSize)
	}
	for _, m := range someMatrices() {
		if !impl.IsMatrix(m) {
			t.Errorf("IsMatrix(%v) = false", m)
		}
	}
	for _, m := range noMatrices() {
		if impl.IsMatrix(m) {
			t.Errorf("IsMatrix(%v) = true", m)
		}
	}
	for rows := -3; rows <= maxSize+3; rows++ {
		for cols := -3; cols <= maxSize+3; cols++ {
			inRange := rows >= 0 && rows <= maxSize && cols >= 0 && cols <= maxSize
			if got := impl.IsMatrix(matrix(rows, cols, make([]int, max(rows*cols, 0))...)); got != inRange {
				t.Errorf("IsMatrix of %d rows and %d columns = %t", rows, cols, got)
			}
			if impl.IsMatrix(matrix(rows, cols, make([]int, max(rows*cols, 0)+1)...)) {
				t.Errorf("IsMatrix of %d rows and %d columns with a cell too many = true", rows, cols)
			}
		}
	}
}

func TestIdentityMatrix(t *testing.T) {
	for n := range maxSize + 1 {
		want := built(n, n, func(row, col int) int {
			if row == col {
				return 1
			}
			return 0
		})
		got, ok := impl.IdentityMatrix(n)
		checkMatrix(t, "IdentityMatrix of "+impl.FormatInt(n), got, ok, want)
	}
	for _, n := range []int{-1, -2, -maxSize, maxSize + 1, limit, limit + 1, 1 << 32, -(1 << 32), math.MaxInt, math.MinInt} {
		got, ok := impl.IdentityMatrix(n)
		checkNoMatrix(t, "IdentityMatrix of "+impl.FormatInt(n), got, ok)
	}
}

func TestCellOf(t *testing.T) {
	for _, m := range someMatrices() {
		for row := -2; row <= m.Rows+1; row++ {
			for col := -2; col <= m.Cols+1; col++ {
				want := 0
				if row >= 0 && row < m.Rows && col >= 0 && col < m.Cols {
					want = m.Cells[row*m.Cols+col]
				}
				if got := impl.CellOf(m, row, col); got != want {
					t.Errorf("CellOf(%v, %d, %d) = %d, want %d", m, row, col, got, want)
				}
			}
		}
	}
}

func TestCellOfRefuses(t *testing.T) {
	m := matrix(2, 3, 1, 2, 3, 4, 5, 6)
	for _, x := range append([]int{-1, 3}, beyond...) {
		for _, y := range append([]int{0, 1}, beyond...) {
			if a, b := impl.CellOf(m, x, y), impl.CellOf(m, y, x); a != 0 || b != 0 {
				t.Errorf("CellOf at %d, %d = %d, and the other way %d, want 0", x, y, a, b)
			}
		}
	}
	invalid := append(noMatrices(), matrix(2, 2, 7, 7, 7), matrix(1, 1, 7, 7), matrix(-1, -1, 7), matrix(1, 2, 7, limit+1), matrix(0, 0, 7))
	for _, m := range invalid {
		for row := -1; row <= 1; row++ {
			for col := -1; col <= 1; col++ {
				if got := impl.CellOf(m, row, col); got != 0 {
					t.Errorf("CellOf(%v, %d, %d) = %d, want 0", m, row, col, got)
				}
			}
		}
	}
}

func TestSameMatrix(t *testing.T) {
	// All of them differ, and those that are not valid are compared as well.
	l := []impl.Matrix{
		{}, matrix(0, 1), matrix(1, 0), matrix(0, 2), matrix(0, maxSize), matrix(maxSize, 0), matrix(1, 1, 0), matrix(1, 1, 1), matrix(1, 1, -1),
		matrix(1, 2, 1, 2), matrix(2, 1, 1, 2), matrix(1, 2, 2, 1), matrix(1, 2, 1, 3), matrix(2, 2, 1, 2, 3, 4), matrix(2, 2, 1, 3, 2, 4),
		matrix(1, 4, 1, 2, 3, 4), matrix(2, 2, 1, 2, 3), matrix(2, 2, 1, 2, 3, 5), matrix(2, 2, 1, 2), matrix(2, 2),
	}
	l = append(l, matrix(-1, 0), matrix(0, -1), matrix(-1, -1), matrix(-1, -1, 1), matrix(1, 1, limit+1), matrix(1, 1, math.MinInt),
		matrix(0, 0, 1), matrix(1, 1, 1, 0), matrix(1<<32, 0), matrix(math.MinInt, math.MaxInt), matrix(maxSize+1, 0))
	for i, a := range l {
		for j, b := range l {
			b.Cells = slices.Clone(b.Cells)
			if got := impl.SameMatrix(a, b); got != (i == j) {
				t.Errorf("SameMatrix(%v, %v) = %t", a, b, got)
			}
		}
	}
	if !impl.SameMatrix(impl.Matrix{Cols: 2}, impl.Matrix{Cols: 2, Cells: []int{}}) {
		t.Error("SameMatrix tells a nil list of cells from an empty one")
	}
}

func TestAddMatrices(t *testing.T) {
	for _, a := range someMatrices() {
		for _, b := range someMatrices() {
			got, ok := impl.AddMatrices(a, b)
			if a.Rows != b.Rows || a.Cols != b.Cols {
				checkNoMatrix(t, "a sum of two sizes", got, ok)
				continue
			}
			checkMatrix(t, "a sum", got, ok, built(a.Rows, a.Cols, func(row, col int) int {
				return a.Cells[row*a.Cols+col] + b.Cells[row*b.Cols+col]
			}))
		}
	}
}

func TestAddMatricesLimits(t *testing.T) {
	cases := []struct{ a, b, want int }{
		{limit - 1, 1, limit}, {1 - limit, -1, -limit}, {limit, 0, limit}, {limit, -limit, 0}, {limit / 2, limit / 2, limit},
		{limit, 1, limit + 1}, {-limit, -1, -limit - 1}, {limit, limit, 2 * limit}, {limit / 2, limit/2 + 1, limit + 1},
	}
	for _, c := range cases {
		// One cell beyond the limit is enough, whichever it is.
		for place := range 4 {
			a, b, want := matrix(2, 2, 1, 1, 1, 1), matrix(2, 2, 2, 2, 2, 2), matrix(2, 2, 3, 3, 3, 3)
			a.Cells[place], b.Cells[place], want.Cells[place] = c.a, c.b, c.want
			got, ok := impl.AddMatrices(a, b)
			checkMatrix(t, "a sum at the limit", got, ok, want)
		}
	}
}

func TestScaleMatrix(t *testing.T) {
	for _, a := range someMatrices() {
		for _, n := range samples {
			got, ok := impl.ScaleMatrix(a, n)
			checkMatrix(t, impl.FormatInt(n)+" times a matrix", got, ok, built(a.Rows, a.Cols, func(row, col int) int {
				return a.Cells[row*a.Cols+col] * n
			}))
		}
		for _, n := range beyond {
			got, ok := impl.ScaleMatrix(a, n)
			checkNoMatrix(t, impl.FormatInt(n)+" times a matrix", got, ok)
		}
	}
	// A product beyond the limit makes it fail wherever it is, and a factor that is no number fails even where all products are 0.
	for place := range 4 {
		a := matrix(2, 2, 1, 1, 1, 1)
		a.Cells[place] = 20000
		got, ok := impl.ScaleMatrix(a, 20000)
		want := matrix(2, 2, 20000, 20000, 20000, 20000)
		want.Cells[place] = limit
		checkMatrix(t, "20000 times 20000", got, ok, want)
		got, ok = impl.ScaleMatrix(a, -20001)
		checkNoMatrix(t, "-20001 times 20000", got, ok)
		got, ok = impl.ScaleMatrix(matrix(2, 2, 0, 0, 0, 0), limit+1)
		checkNoMatrix(t, "a factor beyond the limit", got, ok)
	}
}

// productCell sums up without wrapping around: 24 products of numbers are less than the greatest int.
func productCell(a, b impl.Matrix, row, col int) int {
	sum := 0
	for i := range a.Cols {
		sum += a.Cells[row*a.Cols+i] * b.Cells[i*b.Cols+col]
	}
	return sum
}

func TestMultiplyMatrices(t *testing.T) {
	for _, a := range someMatrices() {
		for _, b := range someMatrices() {
			got, ok := impl.MultiplyMatrices(a, b)
			if a.Cols != b.Rows {
				checkNoMatrix(t, "a product of sizes that do not meet", got, ok)
				continue
			}
			checkMatrix(t, "a product", got, ok, built(a.Rows, b.Cols, func(row, col int) int { return productCell(a, b, row, col) }))
		}
	}
}

func TestMultiplyMatricesLimits(t *testing.T) {
	check := func(want int, row []int, col []int) {
		t.Helper()
		got, ok := impl.MultiplyMatrices(matrix(1, len(row), row...), matrix(len(col), 1, col...))
		checkMatrix(t, "a row times a column", got, ok, matrix(1, 1, want))
	}
	check(limit, []int{20000}, []int{20000})
	check(-limit, []int{-20000}, []int{20000})
	check(limit+20000, []int{20000}, []int{20001})
	check(limit+1, []int{20000, 1}, []int{20000, 1})
	check(-limit-1, []int{20000, 1}, []int{-20000, -1})
	check(limit-1, []int{20000, 1}, []int{20000, -1})
	// Only the cells of the result are held to the limit, not the sums on the way.
	check(0, []int{limit, limit}, []int{limit, -limit})
	check(limit, []int{limit, limit, 1}, []int{limit, -limit, limit})
	check(7, []int{limit, 7, limit, limit}, []int{limit, 1, -limit, 0})
	// The greatest sums of all: as a wrapped number they could pass for one within the limit.
	all := slices.Repeat([]int{limit}, maxSize)
	check(maxSize*limit*limit, all, all)
	check(-maxSize*limit*limit, all, slices.Repeat([]int{-limit}, maxSize))
	check(0, all, slices.Repeat([]int{limit, -limit}, maxSize/2))
	for place := range 4 {
		a, want := matrix(2, 2, 1, 2, 3, 4), matrix(2, 2, 1, 2, 3, 4)
		a.Cells[place], want.Cells[place] = limit, limit
		one, _ := impl.IdentityMatrix(2)
		got, ok := impl.MultiplyMatrices(a, one)
		checkMatrix(t, "a cell at the limit", got, ok, want)
		got, ok = impl.MultiplyMatrices(a, matrix(2, 2, 2, 0, 0, 2))
		checkNoMatrix(t, "a cell beyond the limit", got, ok)
	}
}

func TestTransposeOf(t *testing.T) {
	for _, a := range someMatrices() {
		got, ok := impl.TransposeOf(a)
		checkMatrix(t, "a matrix turned over", got, ok, built(a.Cols, a.Rows, func(row, col int) int { return a.Cells[col*a.Cols+row] }))
		again, ok := impl.TransposeOf(got)
		checkMatrix(t, "a matrix turned over twice", again, ok, a)
	}
}

func TestRowOf(t *testing.T) {
	for _, a := range someMatrices() {
		for row := -2; row <= a.Rows+2; row++ {
			got, ok := impl.RowOf(a, row)
			if row < 0 || row >= a.Rows {
				if ok || len(got) != 0 {
					t.Errorf("RowOf(%v, %d) = %v, %t, want an empty list and false", a, row, got, ok)
				}
			} else if !ok || !slices.Equal(got, a.Cells[row*a.Cols:(row+1)*a.Cols]) {
				t.Errorf("RowOf(%v, %d) = %v, %t", a, row, got, ok)
			}
		}
		for _, row := range beyond {
			if got, ok := impl.RowOf(a, row); ok || len(got) != 0 {
				t.Errorf("RowOf(%v, %d) = %v, %t, want an empty list and false", a, row, got, ok)
			}
		}
	}
}

func TestStackRows(t *testing.T) {
	l := append(someMatrices(), mixed(12, 3, 9, 1), mixed(13, 3, 9, 2), mixed(23, 2, 9, 3), mixed(maxSize, 2, 9, 4), matrix(12, 0), matrix(13, 0))
	for _, a := range l {
		for _, b := range l {
			got, ok := impl.StackRows(a, b)
			if a.Cols != b.Cols {
				checkNoMatrix(t, "rows of two lengths", got, ok)
				continue
			}
			checkMatrix(t, "stacked rows", got, ok, built(a.Rows+b.Rows, a.Cols, func(row, col int) int {
				if row < a.Rows {
					return a.Cells[row*a.Cols+col]
				}
				return b.Cells[(row-a.Rows)*b.Cols+col]
			}))
		}
	}
}

func TestMatricesRefuse(t *testing.T) {
	for _, x := range noMatrices() {
		got, ok := impl.ScaleMatrix(x, 1)
		checkNoMatrix(t, "ScaleMatrix", got, ok)
		got, ok = impl.ScaleMatrix(x, 0)
		checkNoMatrix(t, "ScaleMatrix by 0", got, ok)
		got, ok = impl.TransposeOf(x)
		checkNoMatrix(t, "TransposeOf", got, ok)
		for row := -1; row <= 1; row++ {
			if got, ok := impl.RowOf(x, row); ok || len(got) != 0 {
				t.Errorf("RowOf(%v, %d) = %v, %t, want an empty list and false", x, row, got, ok)
			}
		}
		// The sizes of some of these fit together, so that only the validity can be the reason.
		for _, y := range append(someMatrices(), append(noMatrices(), x)...) {
			for _, do := range []func(impl.Matrix, impl.Matrix) (impl.Matrix, bool){impl.AddMatrices, impl.MultiplyMatrices, impl.StackRows} {
				got, ok = do(x, y)
				checkNoMatrix(t, "a matrix that is not valid with another", got, ok)
				got, ok = do(y, x)
				checkNoMatrix(t, "a matrix with one that is not valid", got, ok)
			}
		}
	}
	// These would be in range again after the operation.
	big := matrix(1, 1, limit+1)
	got, ok := impl.AddMatrices(big, matrix(1, 1, -1))
	checkNoMatrix(t, "AddMatrices", got, ok)
	got, ok = impl.AddMatrices(matrix(1, 1, -1), big)
	checkNoMatrix(t, "AddMatrices", got, ok)
	got, ok = impl.MultiplyMatrices(big, matrix(1, 1, 0))
	checkNoMatrix(t, "MultiplyMatrices", got, ok)
	got, ok = impl.MultiplyMatrices(matrix(1, 0), impl.Matrix{Rows: 0, Cols: 1, Cells: []int{1}})
	checkNoMatrix(t, "MultiplyMatrices", got, ok)
}

func TestMatrixWithoutRows(t *testing.T) {
	for cols := range maxSize + 1 {
		bare, tall, row := matrix(0, cols), matrix(cols, 0), mixed(1, cols, 9, cols)
		if !impl.IsMatrix(bare) || impl.CellOf(bare, 0, 0) != 0 {
			t.Errorf("a matrix of no rows and %d columns is not valid, or has a cell", cols)
		}
		if got, ok := impl.RowOf(bare, 0); ok || len(got) != 0 {
			t.Errorf("RowOf(%v, 0) = %v, %t", bare, got, ok)
		}
		if got, ok := impl.RowOf(matrix(1, 0), 0); !ok || len(got) != 0 {
			t.Errorf("a row without cells = %v, %t", got, ok)
		}
		check := func(name string, want impl.Matrix) func(impl.Matrix, bool) {
			return func(got impl.Matrix, ok bool) {
				t.Helper()
				checkMatrix(t, name, got, ok, want)
			}
		}
		check("a sum without rows", bare)(impl.AddMatrices(bare, bare))
		check("a multiple without rows", bare)(impl.ScaleMatrix(bare, limit))
		check("without rows turned over", tall)(impl.TransposeOf(bare))
		check("without columns turned over", bare)(impl.TransposeOf(tall))
		check("no rows on top", row)(impl.StackRows(bare, row))
		check("no rows below", row)(impl.StackRows(row, bare))
		check("no rows on no rows", bare)(impl.StackRows(bare, bare))
		check("no rows times a matrix", matrix(0, 3))(impl.MultiplyMatrices(bare, mixed(cols, 3, 9, 1)))
		check("empty sums", matrix(3, cols, make([]int, 3*cols)...))(impl.MultiplyMatrices(matrix(3, 0), bare))
		check("no rows and no columns", impl.Matrix{})(impl.MultiplyMatrices(bare, tall))
		// No rows and no rows are not the same if their lengths differ.
		got, ok := impl.AddMatrices(bare, matrix(0, (cols+1)%(maxSize+1)))
		checkNoMatrix(t, "a sum of two lengths", got, ok)
		got, ok = impl.StackRows(bare, matrix(0, (cols+1)%(maxSize+1)))
		checkNoMatrix(t, "no rows of two lengths", got, ok)
	}
}

// matrixOr panics on a failure, for laws whose matrices are all in range.
func matrixOr(m impl.Matrix, ok bool) impl.Matrix {
	if !ok {
		panic("a matrix within the limits was expected")
	}
	return m
}

func TestMatricesAreARing(t *testing.T) {
	add := func(a, b impl.Matrix) impl.Matrix { return matrixOr(impl.AddMatrices(a, b)) }
	times := func(a, b impl.Matrix) impl.Matrix { return matrixOr(impl.MultiplyMatrices(a, b)) }
	scale := func(a impl.Matrix, n int) impl.Matrix { return matrixOr(impl.ScaleMatrix(a, n)) }
	turn := func(a impl.Matrix) impl.Matrix { return matrixOr(impl.TransposeOf(a)) }
	check := func(law string, a, b impl.Matrix) {
		t.Helper()
		if !impl.SameMatrix(a, b) || !same(a, b) {
			t.Errorf("%s: %v and %v", law, a, b)
		}
	}
	for _, n := range []int{0, 1, 2, 3, 4, maxSize} {
		zero, one := matrix(n, n, make([]int, n*n)...), matrixOr(impl.IdentityMatrix(n))
		for seed := range 12 {
			a, b, c := mixed(n, n, 20, seed), mixed(n, n, 20, seed+100), mixed(n, n, 20, seed+200)
			check("a + b = b + a", add(a, b), add(b, a))
			check("(a + b) + c = a + (b + c)", add(add(a, b), c), add(a, add(b, c)))
			check("a + 0 = a", add(a, zero), a)
			check("a - a = 0", add(a, scale(a, -1)), zero)
			check("(a * b) * c = a * (b * c)", times(times(a, b), c), times(a, times(b, c)))
			check("a * 1 = a", times(a, one), a)
			check("1 * a = a", times(one, a), a)
			check("a * 0 = 0", times(a, zero), zero)
			check("a * (b + c) = a * b + a * c", times(a, add(b, c)), add(times(a, b), times(a, c)))
			check("(a + b) * c = a * c + b * c", times(add(a, b), c), add(times(a, c), times(b, c)))
			check("n * a = (n * 1) * a", scale(a, 7), times(scale(one, 7), a))
			check("n * (a * b) = a * (n * b)", scale(times(a, b), -3), times(a, scale(b, -3)))
			check("a * b turned over", turn(times(a, b)), times(turn(b), turn(a)))
			check("a + b turned over", turn(add(a, b)), add(turn(a), turn(b)))
		}
	}
	a, b := matrix(2, 2, 0, 1, 0, 0), matrix(2, 2, 0, 0, 1, 0)
	check("a * b need not be b * a", times(a, b), matrix(2, 2, 1, 0, 0, 0))
	check("b * a need not be a * b", times(b, a), matrix(2, 2, 0, 0, 0, 1))
}

func TestProductsOfManySizes(t *testing.T) {
	for k := range 5 * 5 * 5 * 5 {
		p, q, r, s := k%5, k/5%5, k/25%5, k/125
		a, b, c := mixed(p, q, 50, k), mixed(q, r, 50, k+1), mixed(r, s, 50, k+2)
		left := matrixOr(impl.MultiplyMatrices(matrixOr(impl.MultiplyMatrices(a, b)), c))
		right := matrixOr(impl.MultiplyMatrices(a, matrixOr(impl.MultiplyMatrices(b, c))))
		if !same(left, right) {
			t.Errorf("%v times %v times %v = %v and %v", a, b, c, left, right)
		}
		d := mixed(q, r, 50, k+3)
		stacked := matrixOr(impl.StackRows(a, mixed(2, q, 50, k+4)))
		apart := matrixOr(impl.StackRows(matrixOr(impl.MultiplyMatrices(a, d)), matrixOr(impl.MultiplyMatrices(mixed(2, q, 50, k+4), d))))
		if together := matrixOr(impl.MultiplyMatrices(stacked, d)); !same(together, apart) {
			t.Errorf("%v times %v = %v, row by row %v", stacked, d, together, apart)
		}
	}
}

// spare returns the matrix with its cells at the start of a longer list, so that a write behind them shows.
func spare(m impl.Matrix) (impl.Matrix, []int) {
	whole := append(slices.Clone(m.Cells), 77, 78, 79, 80, 81, 82, 83, 84)
	m.Cells = whole[:len(m.Cells)]
	return m, whole
}

func TestMatricesShareNoMemory(t *testing.T) {
	a, wholeOfA := spare(matrix(2, 2, 1, 2, 3, 4))
	b, wholeOfB := spare(matrix(2, 2, 5, 6, 7, 8))
	empty, wholeOfEmpty := spare(matrix(0, 2))
	one, _ := impl.IdentityMatrix(2)
	keptA, keptB, keptEmpty := slices.Clone(wholeOfA), slices.Clone(wholeOfB), slices.Clone(wholeOfEmpty)
	spoil := func(cells []int) {
		cells = cells[:cap(cells)]
		for i := range cells {
			cells[i] = -99
		}
	}
	take := func(m impl.Matrix, ok bool) {
		t.Helper()
		if !ok {
			t.Error("a result was expected")
		}
		spoil(m.Cells)
		if !slices.Equal(wholeOfA, keptA) || !slices.Equal(wholeOfB, keptB) || !slices.Equal(wholeOfEmpty, keptEmpty) {
			t.Fatal("an argument was changed, or its memory is that of the result")
		}
	}
	take(impl.AddMatrices(a, b))
	take(impl.AddMatrices(a, matrix(2, 2, 0, 0, 0, 0)))
	take(impl.AddMatrices(empty, empty))
	take(impl.ScaleMatrix(a, 1))
	take(impl.ScaleMatrix(empty, 2))
	take(impl.MultiplyMatrices(a, b))
	take(impl.MultiplyMatrices(a, one))
	take(impl.MultiplyMatrices(one, b))
	take(impl.MultiplyMatrices(empty, b))
	take(impl.TransposeOf(a))
	take(impl.TransposeOf(empty))
	take(impl.StackRows(a, b))
	take(impl.StackRows(empty, b))
	take(impl.StackRows(a, empty))
	take(impl.StackRows(empty, empty))
	for row := range 2 {
		cells, ok := impl.RowOf(a, row)
		take(impl.Matrix{Cells: cells}, ok)
	}
	first, _ := impl.IdentityMatrix(3)
	spoil(first.Cells)
	second, ok := impl.IdentityMatrix(3)
	checkMatrix(t, "IdentityMatrix after a change to an earlier result", second, ok, matrix(3, 3, 1, 0, 0, 0, 1, 0, 0, 0, 1))
}
