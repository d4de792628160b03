package tests

import (
	"math/big"
	"slices"
	"testing"

	"loop.example/g03411/impl"
)

const (
	solutionFound = 0
	solutionNone  = 1
	solutionFail  = 2
)

// answer is what SolveInteger and RefuteInteger are to return for a system, and where the way to it ends.
type answer struct {
	x       []int
	solving int
	y       []impl.Ratio
	// refuting is the kind that comes with y.
	refuting int
	end      string
}

// answerByWords follows the document for a valid matrix and a list of any ints, with sums and products of any size.
func answerByWords(m impl.Matrix, b []int) answer {
	failed := func(end string) answer { return answer{solving: solutionFail, refuting: solutionFail, end: end} }
	if len(b) != m.Rows || slices.ContainsFunc(b, func(n int) bool { return n < -limit || n > limit }) {
		return failed("b")
	}
	form := smithByWords(m)
	if form.beyond != "" {
		return failed("form")
	}
	c, fits := timesList(form.u, b)
	if !fits {
		return failed("c")
	}
	diagonal := append(diagonalCells(form.d), make([]int, m.Rows)...)
	quotients := make([]int, m.Cols)
	for i, n := range c {
		switch {
		case diagonal[i] == 0 && n == 0:
		case diagonal[i] == 0 || n%diagonal[i] != 0:
			return refutedByWords(form.u.Cells[i*m.Rows:(i+1)*m.Rows], diagonal[i], n)
		default:
			quotients[i] = n / diagonal[i]
		}
	}
	x, fits := timesList(form.v, quotients)
	if !fits {
		return answer{solving: solutionFail, refuting: solutionNone, end: "x"}
	}
	return answer{x: x, solving: solutionFound, refuting: solutionNone, end: "solved"}
}

func refutedByWords(row []int, divisor, n int) answer {
	if divisor == 0 {
		divisor = 2 * n
	}
	if divisor < -limit || divisor > limit {
		return answer{solving: solutionNone, refuting: solutionFail, end: "2c"}
	}
	y := []impl.Ratio{}
	for _, cell := range row {
		y = append(y, inRange(big.NewRat(int64(cell), int64(divisor))))
	}
	return answer{y: y, solving: solutionNone, refuting: solutionFound, end: "refuted"}
}

// timesList returns the product of a matrix and a column; false if a number of it is beyond the limit.
func timesList(m impl.Matrix, x []int) ([]int, bool) {
	product, fits := smallRows(bigProduct(bigRows(m), bigRows(columnOf(x)), 1), 1)
	return product.Cells, fits
}

// isSolvable goes another way, without limits: b is a sum of multiples of the columns if the basis of these leaves nothing of it.
func isSolvable(m impl.Matrix, b []int) bool {
	rest := bigRows(matrix(1, len(b), b...))[0]
	for _, row := range basisOfSums(bigRows(flipped(m)), m.Rows) {
		lead := slices.IndexFunc(row, func(cell *big.Int) bool { return cell.Sign() != 0 })
		times, left := new(big.Int).DivMod(rest[lead], row[lead], new(big.Int))
		if left.Sign() != 0 {
			return false
		}
		rest = combined(big.NewInt(1), rest, times.Neg(times), row)
	}
	return !slices.ContainsFunc(rest, func(n *big.Int) bool { return n.Sign() != 0 })
}

// solves knows no limits.
func solves(m impl.Matrix, b, x []int) bool {
	if len(x) != m.Cols {
		return false
	}
	product := bigProduct(bigRows(m), bigRows(columnOf(x)), 1)
	return slices.EqualFunc(product, b, func(row []*big.Int, n int) bool { return row[0].Cmp(big.NewInt(int64(n))) == 0 })
}

// exactSum returns a sum of products, and whether each product and each sum of the first products is within the limit.
func exactSum(y []impl.Ratio, numbers []int) (*big.Rat, bool) {
	sum, fits := new(big.Rat), true
	for i, n := range numbers {
		product := new(big.Rat).Mul(exact(y[i]), big.NewRat(int64(n), 1))
		sum.Add(sum, product)
		fits = fits && inRange(product) != none && inRange(sum) != none
	}
	return sum, fits
}

// refutes tells of ratios, as many as rows, whether they refute a system, and whether all that is met then is within the limit.
func refutes(m impl.Matrix, b []int, y []impl.Ratio) (refuted, fits bool) {
	sum, fits := exactSum(y, b)
	refuted = !sum.IsInt()
	for col := range m.Cols {
		sum, within := exactSum(y, flipped(m).Cells[col*m.Rows:(col+1)*m.Rows])
		refuted, fits = refuted && sum.IsInt(), fits && within
	}
	return refuted, fits
}

// refutationByWords follows the definition of IsRefutation for a valid matrix.
func refutationByWords(m impl.Matrix, b []int, y []impl.Ratio) bool {
	if len(b) != m.Rows || len(y) != m.Rows || slices.ContainsFunc(y, func(r impl.Ratio) bool { return !ratioByWords(r) }) {
		return false
	}
	if slices.ContainsFunc(b, func(n int) bool { return n < -limit || n > limit }) {
		return false
	}
	refuted, fits := refutes(m, b, y)
	return refuted && fits
}

func checkSolution(t *testing.T, m impl.Matrix, b, x []int, want bool) {
	t.Helper()
	if got := impl.IsSolution(m, b, x); got != want {
		t.Errorf("IsSolution(%v, %v, %v) = %t", m, b, x, got)
	}
}

func checkRefutation(t *testing.T, m impl.Matrix, b []int, y []impl.Ratio, want bool) {
	t.Helper()
	if got := impl.IsRefutation(m, b, y); got != want {
		t.Errorf("IsRefutation(%v, %v, %v) = %t", m, b, y, got)
	}
}

func checkAnswer(t *testing.T, m impl.Matrix, b []int, want answer) {
	t.Helper()
	if x, kind := impl.SolveInteger(m, b); kind != want.solving || !slices.Equal(x, want.x) {
		t.Errorf("SolveInteger(%v, %v) = %v, %d, want %v, %d", m, b, x, kind, want.x, want.solving)
	}
	if y, kind := impl.RefuteInteger(m, b); kind != want.refuting || !slices.Equal(y, want.y) {
		t.Errorf("RefuteInteger(%v, %v) = %v, %d, want %v, %d", m, b, y, kind, want.y, want.refuting)
	}
}

func checkFound(t *testing.T, m impl.Matrix, b []int, x ...int) {
	t.Helper()
	checkAnswer(t, m, b, answer{x: x, solving: solutionFound, refuting: solutionNone})
	checkSolution(t, m, b, x, true)
}

func checkRefuted(t *testing.T, m impl.Matrix, b []int, y ...impl.Ratio) {
	t.Helper()
	checkAnswer(t, m, b, answer{solving: solutionNone, y: y, refuting: solutionFound})
	checkRefutation(t, m, b, y, true)
}

func checkFailed(t *testing.T, m impl.Matrix, b []int) {
	t.Helper()
	checkAnswer(t, m, b, answer{solving: solutionFail, refuting: solutionFail})
}

// checkByWords compares with the words of the document and with the truth, and returns where the way ends.
func checkByWords(t *testing.T, m impl.Matrix, b []int) string {
	t.Helper()
	want := answerByWords(m, b)
	checkAnswer(t, m, b, want)
	if want.solving == solutionFound {
		if !solves(m, b, want.x) {
			t.Errorf("by words %v solves %v, %v", want.x, m, b)
		}
		checkSolution(t, m, b, want.x, true)
	}
	if want.refuting == solutionFound {
		refuted, fits := refutes(m, b, want.y)
		if !refuted {
			t.Errorf("by words %v refutes %v, %v", want.y, m, b)
		}
		checkRefutation(t, m, b, want.y, fits)
		if !fits {
			return "refuted beyond the limit"
		}
	}
	return want.end
}

// wholes returns the numbers as ratios.
func wholes(l ...int) []impl.Ratio {
	y := []impl.Ratio{}
	for _, n := range l {
		y = append(y, ratio(n, 1))
	}
	return y
}

// sides returns right sides for a matrix: small and great ones, and those of solutions, with and without something added.
func sides(m impl.Matrix, seed int) [][]int {
	l := [][]int{make([]int, m.Rows), mixed(1, m.Rows, []int{1, 9, 1000}[seed%3], seed+500).Cells, mixed(1, m.Rows, []int{limit, 200000000}[seed%2], seed+600).Cells}
	for i, bound := range []int{3, 2000, limit} {
		if b, fits := timesList(m, mixed(1, m.Cols, bound, seed+700+i).Cells); fits {
			l = append(l, b)
			if m.Rows > 0 && b[seed%m.Rows] < limit-9 {
				other := slices.Clone(b)
				other[seed%m.Rows] += seed%9 + 1
				l = append(l, other)
			}
		}
	}
	return l
}

func TestKindsOfAnswers(t *testing.T) {
	if impl.SolutionFound != solutionFound || impl.SolutionNone != solutionNone || impl.SolutionFail != solutionFail {
		t.Errorf("the kinds are %d, %d and %d", impl.SolutionFound, impl.SolutionNone, impl.SolutionFail)
	}
}

func TestSolveInteger(t *testing.T) {
	checkFound(t, matrix(1, 2, 2, 4), []int{6}, 3, 0)
	checkFound(t, matrix(1, 2, 2, 3), []int{1}, -1, 1)
	checkFound(t, matrix(1, 2, 3, 5), []int{-7}, -14, 7)
	checkFound(t, matrix(1, 3, 6, 10, 15), []int{1}, 1, 1, -1)
	checkFound(t, matrix(1, 1, 5), []int{-15}, -3)
	checkFound(t, matrix(1, 1, -5), []int{-15}, 3)
	checkFound(t, matrix(1, 1, -5), []int{15}, -3)
	checkFound(t, matrix(2, 2, 2, 4, 6, 8), []int{2, 10}, 3, -1)
	checkFound(t, matrix(2, 2, 0, 1, 1, 0), []int{3, 4}, 4, 3)
	checkFound(t, matrix(2, 2, 1, 2, 2, 4), []int{3, 6}, 3, 0)
	checkFound(t, matrix(3, 1, 6, 10, 15), []int{-12, -20, -30}, -2)
	checkFound(t, diagonal(2, 2, 2, 3), []int{-4, 9}, -2, 3)
	// What no equation asks for is 0.
	checkFound(t, matrix(1, 3, 0, 0, 7), []int{14}, 0, 0, 2)
	checkFound(t, diagonal(2, 4, 1), []int{8, 0}, 8, 0, 0, 0)
	checkFound(t, diagonal(2, 2), []int{0, 0}, 0, 0)
	checkFound(t, matrix(0, 3), nil, 0, 0, 0)
	checkFound(t, matrix(0, maxSize), []int{}, make([]int, maxSize)...)
	checkFound(t, impl.Matrix{}, nil)
	checkFound(t, matrix(3, 0), []int{0, 0, 0})
	checkFound(t, identity(maxSize), upTo(maxSize), upTo(maxSize)...)
}

func TestRefuteInteger(t *testing.T) {
	half, third := ratio(1, 2), ratio(1, 3)
	checkRefuted(t, matrix(1, 2, 2, 4), []int{5}, half)
	checkRefuted(t, matrix(1, 1, 2), []int{-1}, half)
	// The row of the form was negated.
	checkRefuted(t, matrix(1, 1, -2), []int{1}, ratio(-1, 2))
	checkRefuted(t, matrix(1, 2, 6, 10), []int{-15}, half)
	checkRefuted(t, matrix(1, 1, limit), []int{1}, ratio(1, limit))
	checkRefuted(t, matrix(1, 1, limit), []int{1 - limit}, ratio(1, limit))
	checkRefuted(t, matrix(1, 1, 0), []int{3}, ratio(1, 6))
	checkRefuted(t, matrix(1, 1, 0), []int{-3}, ratio(-1, 6))
	checkRefuted(t, matrix(2, 1, 1, 1), []int{1, 2}, ratio(-1, 2), half)
	checkRefuted(t, matrix(2, 1, 1, 1), []int{2, 1}, half, ratio(-1, 2))
	checkRefuted(t, matrix(2, 2, 1, 2, 2, 4), []int{3, 7}, ratio(-1, 1), half)
	// Of u, not of the columns: both equations of the second row are made of both.
	checkRefuted(t, matrix(2, 2, 2, 4, 6, 8), []int{2, 8}, ratio(3, 4), ratio(-1, 4))
	// The ratios are in lowest terms, and some may be whole.
	checkRefuted(t, matrix(2, 2, 2, 2, 2, 6), []int{0, 2}, ratio(-1, 4), ratio(1, 4))
	checkRefuted(t, matrix(2, 1, 2, 6), []int{2, 5}, ratio(3, 2), ratio(-1, 2))
	// The first row without a quotient refutes, although the second one would, too.
	checkRefuted(t, diagonal(2, 2, 3, 6), []int{1, 1}, third, ratio(0, 1))
	checkRefuted(t, diagonal(2, 2, 3, 6), []int{3, 1}, ratio(0, 1), ratio(1, 6))
	checkRefuted(t, diagonal(3, 3, 2, 4), []int{2, 6, 1}, ratio(0, 1), ratio(1, 4), ratio(0, 1))
	checkRefuted(t, diagonal(3, 3, 2, 4), []int{2, 8, 1}, ratio(0, 1), ratio(0, 1), half)
	checkRefuted(t, diagonal(3, 2, 1, 1), []int{9, 9, -4}, ratio(0, 1), ratio(0, 1), ratio(-1, 8))
}

// TestEquationZeroIsOne has equations in which no number has a share.
func TestEquationZeroIsOne(t *testing.T) {
	for cols := range maxSize + 1 {
		for _, n := range []int{1, -1, 2, 7, -100, 200000000, -200000000} {
			checkRefuted(t, matrix(1, cols, make([]int, cols)...), []int{n}, inRange(big.NewRat(1, int64(2*n))))
		}
		checkFound(t, matrix(1, cols, make([]int, cols)...), []int{0}, make([]int, cols)...)
	}
	for rows := 1; rows <= maxSize; rows++ {
		for row := range rows {
			b, y := make([]int, rows), slices.Repeat([]impl.Ratio{ratio(0, 1)}, rows)
			b[row], y[row] = 1, ratio(1, 2)
			checkRefuted(t, matrix(rows, 0), b, y...)
			checkRefuted(t, diagonal(rows, rows), b, y...)
			checkRefuted(t, diagonal(rows, 1), b, y...)
			// All other numbers are known.
			others := identity(rows)
			others.Cells[row*rows+row] = 0
			if y, kind := impl.RefuteInteger(others, b); kind != solutionFound || !impl.IsRefutation(others, b, y) || y[row] != ratio(1, 2) {
				t.Errorf("RefuteInteger(%v, %v) = %v, %d", others, b, y, kind)
			}
			if x, kind := impl.SolveInteger(others, b); kind != solutionNone || len(x) != 0 {
				t.Errorf("SolveInteger(%v, %v) = %v, %d", others, b, x, kind)
			}
		}
	}
	// 0 = 1 comes out only when one equation is taken away from another one.
	checkRefuted(t, matrix(2, 2, 1, 1, 1, 1), []int{0, 1}, ratio(-1, 2), ratio(1, 2))
	checkRefuted(t, matrix(3, 2, 1, 0, 0, 1, 1, 1), []int{2, 3, 6}, ratio(-1, 2), ratio(-1, 2), ratio(1, 2))
	checkFound(t, matrix(3, 2, 1, 0, 0, 1, 1, 1), []int{2, 3, 5}, 2, 3)
	// Where nothing is 1, nothing is refuted.
	checkRefutation(t, matrix(1, 0), []int{0}, []impl.Ratio{ratio(1, 2)}, false)
	checkRefutation(t, matrix(1, 0), []int{1}, []impl.Ratio{ratio(1, 2)}, true)
	checkRefutation(t, matrix(1, 0), []int{1}, []impl.Ratio{ratio(-2, 3)}, true)
	checkRefutation(t, matrix(1, 0), []int{1}, []impl.Ratio{ratio(1, 1)}, false)
	checkRefutation(t, matrix(1, 0), []int{1}, []impl.Ratio{ratio(0, 1)}, false)
	checkSolution(t, matrix(1, 0), []int{1}, nil, false)
	checkSolution(t, matrix(1, 0), []int{0}, nil, true)
	checkSolution(t, matrix(1, 1, 0), []int{1}, []int{1}, false)
}

func TestIsSolution(t *testing.T) {
	m := matrix(2, 2, 2, 1, 1, 3)
	checkSolution(t, m, []int{5, 10}, []int{1, 3}, true)
	checkSolution(t, m, []int{5, 10}, []int{3, 1}, false)
	checkSolution(t, m, []int{10, 5}, []int{1, 3}, false)
	// One equation alone is true.
	checkSolution(t, m, []int{5, 0}, []int{1, 3}, false)
	checkSolution(t, m, []int{0, 10}, []int{1, 3}, false)
	checkSolution(t, m, []int{-5, -10}, []int{1, 3}, false)
	checkSolution(t, m, []int{-5, -10}, []int{-1, -3}, true)
	// There may be other solutions than the one that is found.
	for k := -9; k <= 9; k++ {
		checkSolution(t, matrix(1, 2, 2, 4), []int{6}, []int{3 - 2*k, k}, true)
		checkSolution(t, matrix(1, 2, 2, 4), []int{6}, []int{2 - 2*k, k}, false)
		checkSolution(t, matrix(1, 2, 2, 4), []int{5}, []int{3 - 2*k, k}, false)
		checkSolution(t, matrix(1, 1, 0), []int{0}, []int{k}, true)
		checkSolution(t, matrix(0, 1), nil, []int{k}, true)
	}
	checkSolution(t, matrix(3, 1, 1, 2, 3), []int{2, 4, 6}, []int{2}, true)
	checkSolution(t, matrix(3, 1, 1, 2, 3), []int{2, 4, 7}, []int{2}, false)
	checkSolution(t, impl.Matrix{}, nil, nil, true)
	checkSolution(t, impl.Matrix{}, []int{}, []int{}, true)
	checkSolution(t, identity(maxSize), upTo(maxSize), upTo(maxSize), true)
	// Numbers at the limit and beyond it. Sums on the way are held to none.
	checkSolution(t, matrix(1, 1, limit), []int{-limit}, []int{-1}, true)
	checkSolution(t, matrix(1, 1, 1), []int{limit}, []int{limit}, true)
	checkSolution(t, matrix(1, 1, 20000), []int{limit}, []int{20000}, true)
	checkSolution(t, matrix(1, 1, 20000), []int{20000 * 20001}, []int{20001}, false)
	checkSolution(t, matrix(1, 1, 1), []int{limit + 1}, []int{limit + 1}, false)
	checkSolution(t, matrix(1, 2, limit, -limit), []int{limit}, []int{limit, limit - 1}, true)
	checkSolution(t, matrix(1, 2, 1, 1), []int{limit + 1}, []int{limit, 1}, false)
	for _, n := range beyond {
		checkSolution(t, matrix(1, 1, 0), []int{0}, []int{n}, false)
		checkSolution(t, matrix(0, 1), nil, []int{n}, false)
		checkSolution(t, matrix(1, 1, 1), []int{n}, []int{n}, false)
		checkSolution(t, matrix(1, 1, 1), []int{n}, []int{0}, false)
		checkSolution(t, matrix(1, 1, n), []int{0}, []int{0}, false)
		checkSolution(t, matrix(2, 1, 0, 0), []int{0, n}, []int{0}, false)
	}
}

func TestIsSolutionCounts(t *testing.T) {
	for rows := range 4 {
		for cols := range 4 {
			m := mixed(rows, cols, 9, rows+cols)
			for n := range 6 {
				for k := range 6 {
					checkSolution(t, m, make([]int, n), make([]int, k), n == rows && k == cols)
				}
			}
			checkSolution(t, m, make([]int, maxSize+1), make([]int, cols), false)
			checkSolution(t, m, make([]int, rows), make([]int, maxSize+1), false)
		}
	}
	for _, m := range noMatrices() {
		for n := range 4 {
			for k := range 4 {
				checkSolution(t, m, make([]int, n), make([]int, k), false)
			}
		}
	}
	checkSolution(t, matrix(maxSize+1, 0), make([]int, maxSize+1), nil, false)
	checkSolution(t, matrix(0, maxSize+1), nil, make([]int, maxSize+1), false)
	checkSolution(t, identity(maxSize+1), make([]int, maxSize+1), make([]int, maxSize+1), false)
}

func TestIsRefutation(t *testing.T) {
	half, third, zero := ratio(1, 2), ratio(1, 3), ratio(0, 1)
	cases := []struct {
		m    impl.Matrix
		b    []int
		y    []impl.Ratio
		want bool
	}{
		{matrix(1, 2, 2, 4), []int{5}, []impl.Ratio{half}, true},
		{matrix(1, 2, 2, 4), []int{-5}, []impl.Ratio{half}, true},
		{matrix(1, 2, 2, 4), []int{5}, []impl.Ratio{ratio(-3, 2)}, true},
		{matrix(1, 2, -2, 4), []int{5}, []impl.Ratio{half}, true},
		{matrix(1, 2, 2, 4), []int{6}, []impl.Ratio{half}, false},
		{matrix(1, 2, 2, 4), []int{0}, []impl.Ratio{half}, false},
		{matrix(1, 2, 2, 4), []int{5}, []impl.Ratio{ratio(1, 4)}, false},
		{matrix(1, 2, 2, 4), []int{5}, []impl.Ratio{ratio(3, 1)}, false},
		{matrix(1, 2, 2, 4), []int{5}, []impl.Ratio{zero}, false},
		// One column alone has no whole sum.
		{matrix(1, 3, 2, 4, 3), []int{5}, []impl.Ratio{half}, false},
		{matrix(1, 3, 3, 2, 4), []int{5}, []impl.Ratio{half}, false},
		{matrix(1, 3, 2, 3, 4), []int{5}, []impl.Ratio{half}, false},
		{matrix(1, 3, 2, 0, -4), []int{5}, []impl.Ratio{half}, true},
		// The sums with the columns, not with the rows, are to be whole.
		{matrix(2, 2, 1, 4, 1, 2), []int{1, 0}, []impl.Ratio{half, half}, true},
		{matrix(2, 2, 1, 1, 4, 2), []int{1, 0}, []impl.Ratio{half, half}, false},
		{matrix(2, 2, 1, 1, 4, 2), []int{0, 1}, []impl.Ratio{zero, half}, true},
		{matrix(2, 1, 1, 1), []int{1, 0}, []impl.Ratio{third, ratio(2, 3)}, true},
		{matrix(2, 1, 1, 1), []int{1, 1}, []impl.Ratio{third, ratio(2, 3)}, false},
		{matrix(2, 1, 1, 1), []int{1, 2}, []impl.Ratio{third, ratio(2, 3)}, true},
		{matrix(2, 1, 2, 3), []int{1, 0}, []impl.Ratio{half, third}, true},
		{matrix(2, 1, 3, 2), []int{1, 0}, []impl.Ratio{half, third}, false},
		{matrix(1, 1, 0), []int{3}, []impl.Ratio{ratio(1, 6)}, true},
		{matrix(1, 1, 0), []int{3}, []impl.Ratio{ratio(2, 9)}, true},
		{matrix(1, 1, 0), []int{3}, []impl.Ratio{third}, false},
		// Numbers at the limit.
		{matrix(1, 1, limit), []int{limit - 1}, []impl.Ratio{half}, true},
		{matrix(1, 1, -limit), []int{1 - limit}, []impl.Ratio{half}, true},
		{matrix(1, 1, limit), []int{limit}, []impl.Ratio{half}, false},
		{matrix(1, 1, limit), []int{1}, []impl.Ratio{ratio(1, limit)}, true},
		{matrix(1, 1, limit), []int{1}, []impl.Ratio{ratio(limit-1, limit)}, true},
		// These would be refutations if no product and no sum on the way were beyond the limit.
		{matrix(1, 1, limit), []int{1}, []impl.Ratio{ratio(3, 2)}, false},
		{matrix(1, 1, limit), []int{1}, []impl.Ratio{half}, true},
		{matrix(1, 1, 2), []int{limit - 1}, []impl.Ratio{ratio(3, 2)}, false},
		{matrix(1, 1, 2), []int{1 - limit}, []impl.Ratio{half}, true},
		{matrix(1, 1, 2), []int{limit/5 - 1}, []impl.Ratio{ratio(5, 2)}, true},
		{matrix(1, 1, 2), []int{limit/5 + 1}, []impl.Ratio{ratio(5, 2)}, false},
		{matrix(4, 1, 1, 1, -1, 0), []int{0, 0, 0, 1}, append(wholes(limit, 1, 1), half), false},
		{matrix(4, 1, 1, -1, 1, 0), []int{0, 0, 0, 1}, append(wholes(limit, 1, 1), half), true},
		{matrix(4, 1, 1, 1, -1, 0), []int{0, 0, 0, 1}, append(wholes(1, limit, 1), half), false},
		{matrix(4, 1, 1, 1, 1, 0), []int{0, 0, 0, 1}, append(wholes(-1, limit, 1), half), true},
		{matrix(4, 2, 1, 1, -1, 1, 1, -1, 0, 0), []int{0, 0, 0, 1}, append(wholes(limit, 1, 1), half), false},
		{matrix(4, 1, 0, 0, 0, 0), []int{1, 1, -1, 1}, append(wholes(limit-1, 2, 2), half), false},
		{matrix(4, 1, 0, 0, 0, 0), []int{1, -1, 1, 1}, append(wholes(limit-1, 2, 2), half), false},
		{matrix(4, 1, 0, 0, 0, 0), []int{1, -1, 1, 1}, append(wholes(limit/2-1, 2, 2), half), true},
		// The denominators of sums are held to the limit, too.
		{matrix(4, 1, 1, 1, 1, 1), []int{1, 0, 0, 0}, []impl.Ratio{ratio(1, 20001), ratio(1, 20000), ratio(-1, 20000), ratio(-1, 20001)}, false},
		{matrix(4, 1, 1, 1, 1, 1), []int{1, 0, 0, 0}, []impl.Ratio{ratio(1, 20001), ratio(-1, 20001), ratio(1, 20000), ratio(-1, 20000)}, true},
		{matrix(4, 1, 1, 1, 1, 1), []int{0, 1, 1, 0}, []impl.Ratio{ratio(1, 20001), ratio(-1, 20001), ratio(1, 20000), ratio(-1, 20000)}, false},
		{matrix(4, 1, 1, 1, 1, 1), []int{0, 0, 1, 1}, []impl.Ratio{ratio(1, 20001), ratio(-1, 20001), ratio(1, 20000), ratio(-1, 20000)}, false},
		{matrix(4, 1, 1, 1, 1, 1), []int{0, 0, 1, 2}, []impl.Ratio{ratio(1, 20001), ratio(-1, 20001), ratio(1, 20000), ratio(-1, 20000)}, true},
	}
	for _, c := range cases {
		if refutationByWords(c.m, c.b, c.y) != c.want {
			t.Errorf("the definition says that IsRefutation(%v, %v, %v) is not %t", c.m, c.b, c.y, c.want)
		}
		checkRefutation(t, c.m, c.b, c.y, c.want)
	}
}

func TestIsRefutationRefuses(t *testing.T) {
	halves := func(n int) []impl.Ratio { return slices.Repeat([]impl.Ratio{ratio(1, 2)}, n) }
	for _, m := range noMatrices() {
		for n := range 4 {
			for k := range 4 {
				b := make([]int, n)
				if n > 0 {
					b[0] = 1
				}
				checkRefutation(t, m, b, halves(k), false)
			}
		}
	}
	checkRefutation(t, matrix(1, 1, limit+2), []int{1}, halves(1), false)
	checkRefutation(t, matrix(1, 2, 2), []int{1}, halves(1), false)
	checkRefutation(t, matrix(1, 1, 2, 2), []int{1}, halves(1), false)
	for rows := range 4 {
		for cols := range 4 {
			m := matrixOr(impl.ScaleMatrix(mixed(rows, cols, 9, rows), 2))
			for n := range 6 {
				b := append(make([]int, n), 1)[1:]
				for k := range 6 {
					checkRefutation(t, m, b, halves(k), rows > 0 && n == rows && k == rows)
				}
			}
			checkRefutation(t, m, []int{1}, halves(maxSize+1), false)
		}
	}
	// Without equations nothing is refuted.
	for cols := range maxSize + 2 {
		checkRefutation(t, matrix(0, cols), nil, nil, false)
	}
	checkRefutation(t, matrix(maxSize, 0), append(make([]int, maxSize-1), 1), halves(maxSize), true)
	checkRefutation(t, matrix(maxSize+1, 0), append(make([]int, maxSize), 1), halves(maxSize+1), false)
	for _, r := range noRatios {
		checkRefutation(t, matrix(1, 1, 0), []int{1}, []impl.Ratio{r}, false)
		checkRefutation(t, matrix(1, 0), []int{1}, []impl.Ratio{r}, false)
		checkRefutation(t, matrix(1, 1, r.Den%limit), []int{1}, []impl.Ratio{r}, false)
		// Not even 0 times it is a ratio.
		checkRefutation(t, matrix(2, 1, 2, 0), []int{1, 0}, []impl.Ratio{ratio(1, 2), r}, false)
		checkRefutation(t, matrix(2, 1, 0, 2), []int{0, 1}, []impl.Ratio{r, ratio(1, 2)}, false)
		checkRefutation(t, matrix(2, 0), []int{1, 0}, []impl.Ratio{ratio(1, 2), r}, false)
		checkRefutation(t, matrix(3, 0), []int{1, 0, 1}, []impl.Ratio{ratio(1, 3), r, ratio(1, 3)}, false)
	}
	for _, n := range append(beyond, limit+3, -limit-3, 1<<33+1) {
		checkRefutation(t, matrix(1, 1, 2), []int{n}, halves(1), false)
		checkRefutation(t, matrix(1, 0), []int{n}, []impl.Ratio{ratio(1, 7)}, false)
		checkRefutation(t, matrix(2, 1, 2, 2), []int{1, n}, halves(2), false)
		// Not even if it is taken 0 times.
		checkRefutation(t, matrix(2, 1, 2, 2), []int{1, n}, []impl.Ratio{ratio(1, 2), ratio(0, 1)}, false)
		checkRefutation(t, matrix(2, 0), []int{n, 1}, []impl.Ratio{ratio(0, 1), ratio(1, 2)}, false)
	}
}

// TestRefutationsByWords has ratios that refute a system, and others near them.
func TestRefutationsByWords(t *testing.T) {
	ratios := append(someRatios(), ratio(1, 2), ratio(1, 3), ratio(-1, 2), ratio(0, 1))
	counts := map[bool]int{}
	for k := range 6000 {
		rows, cols := k%4, k/4%4
		m, b := mixed(rows, cols, []int{1, 3, 20, 20000, limit}[k%5], k), mixed(1, rows, []int{2, 30, limit}[k%3], k+800).Cells
		y := []impl.Ratio{}
		for i, n := range mixed(1, rows, 1000, k+1).Cells {
			r := ratios[(n+1000+k+i)%len(ratios)]
			if k%3 > 0 {
				r = ratio(1-2*(n&1), k%7+2)
			}
			y = append(y, r)
		}
		if k%4 > 0 {
			// Multiples of the denominators make whole numbers.
			for i, cell := range m.Cells {
				if multiple := cell * y[i/cols].Den; -limit <= multiple && multiple <= limit {
					m.Cells[i] = multiple
				}
			}
		}
		want := refutationByWords(m, b, y)
		counts[want]++
		checkRefutation(t, m, b, y, want)
		if want && isSolvable(m, b) {
			t.Errorf("by words %v refutes %v, %v, which can be solved", y, m, b)
		}
	}
	if counts[true] < 800 || counts[false] < 800 {
		t.Errorf("%d are refutations, and %d are none", counts[true], counts[false])
	}
}

// TestAnswersByWords has matrices of all sizes with many right sides.
func TestAnswersByWords(t *testing.T) {
	counts := map[string]int{}
	for i, m := range slices.Concat(oblongs(), units(), greatSquares()) {
		if max(m.Rows, m.Cols) > 3 && i%3 != 0 {
			continue
		}
		for _, b := range sides(m, i) {
			end := checkByWords(t, m, b)
			counts[end]++
			solvable := isSolvable(m, b)
			switch end {
			case "solved", "x":
				if !solvable {
					t.Errorf("by words %v, %v can be solved", m, b)
				}
			case "refuted", "refuted beyond the limit", "2c":
				if solvable {
					t.Errorf("by words %v, %v cannot be solved", m, b)
				}
			}
		}
	}
	for _, end := range []string{"solved", "refuted", "refuted beyond the limit", "2c", "x", "c", "form"} {
		if counts[end] < 30 {
			t.Errorf("only %d ways end with %s: %v", counts[end], end, counts)
		}
	}
}

// TestSmallEquations knows from the greatest common divisor whether there is a solution.
func TestSmallEquations(t *testing.T) {
	for p := -9; p <= 9; p++ {
		for q := -9; q <= 9; q++ {
			m, divisor := matrix(1, 2, p, q), commonDivisor(p, q)
			for n := -12; n <= 12; n++ {
				checkDecided(t, m, []int{n}, n == 0 || divisor > 0 && n%divisor == 0)
			}
			// The same number solves both equations.
			for n := -8; n <= 8; n++ {
				whole := p == 0 && n == 0 || p != 0 && n%p == 0
				for k := -8; k <= 8; k += 2 {
					both := whole && (q == 0 && k == 0 || q != 0 && k%q == 0) && (p == 0 || q == 0 || n*q == k*p)
					checkDecided(t, matrix(2, 1, p, q), []int{n, k}, both)
				}
			}
		}
	}
	for word := range 5 * 5 * 5 * 5 {
		m := spelled(2, word, []int{0, 1, -2, 3, 4})
		for n := range 49 {
			b := []int{n%7 - 3, n/7 - 3}
			checkDecided(t, m, b, isSolvable(m, b))
		}
	}
	for word := range 4 * 4 * 4 * 4 * 4 * 4 * 4 {
		m, b := spelled(3, word, []int{0, 1, -2, 3}), []int{word%5 - 2, word % 7, word%11 - 5}
		checkDecided(t, m, b, isSolvable(m, b))
	}
}

// checkDecided has a system with a certificate for either answer.
func checkDecided(t *testing.T, m impl.Matrix, b []int, solvable bool) {
	t.Helper()
	x, solving := impl.SolveInteger(m, b)
	y, refuting := impl.RefuteInteger(m, b)
	fine := solving == solutionFound && refuting == solutionNone && len(y) == 0 && solves(m, b, x) && impl.IsSolution(m, b, x)
	if !solvable {
		fine = solving == solutionNone && refuting == solutionFound && len(x) == 0 && refutationByWords(m, b, y) && impl.IsRefutation(m, b, y)
	}
	if !fine {
		t.Errorf("SolveInteger(%v, %v) = %v, %d, and RefuteInteger returns %v, %d", m, b, x, solving, y, refuting)
	}
}

// TestSystemsAreSolvedOrRefuted adds a multiple of a divisor of all cells to a solvable system, or something else.
func TestSystemsAreSolvedOrRefuted(t *testing.T) {
	counts := map[int]int{}
	for k := range 1500 {
		rows, cols, factor := k%5+1, k/5%5+1, k%6+2
		m := matrixOr(impl.ScaleMatrix(mixed(rows, cols, 4, k), factor))
		b, fits := timesList(m, mixed(1, cols, 30, k+50).Cells)
		if !fits {
			continue
		}
		for added := range factor {
			b[k%rows] += min(added, 1)
			x, solving := impl.SolveInteger(m, b)
			y, refuting := impl.RefuteInteger(m, b)
			if solving == solutionFail || refuting == solutionFail {
				continue
			}
			counts[solving]++
			switch {
			case solving == refuting:
				t.Errorf("%v, %v is both solved and refuted, or neither: %v, %v", m, b, x, y)
			case added == 0 && !impl.IsSolution(m, b, x):
				t.Errorf("SolveInteger(%v, %v) = %v", m, b, x)
			case added > 0 && (solving != solutionNone || len(x) != 0):
				t.Errorf("SolveInteger(%v, %v) = %v, %d", m, b, x, solving)
			case added > 0 && impl.IsRefutation(m, b, y) != refutationByWords(m, b, y):
				t.Errorf("IsRefutation(%v, %v, %v) = %t", m, b, y, impl.IsRefutation(m, b, y))
			}
			// What refutes one system does not refute the other one, and what solves one does not solve the other one.
			c := slices.Clone(b)
			c[k%rows]++
			if solving == solutionFound && impl.IsSolution(m, c, x) {
				t.Errorf("%v solves %v with %v and with %v", x, m, b, c)
			}
		}
	}
	if counts[solutionFound] < 700 || counts[solutionNone] < 1500 {
		t.Errorf("%d systems are solved and %d refuted", counts[solutionFound], counts[solutionNone])
	}
}

func TestAnswerLimits(t *testing.T) {
	// There is no Smith form, whatever is on the right.
	for _, b := range [][]int{{0, 0}, {1, 0}, {0, 1}} {
		checkFailed(t, matrix(2, 2, 1, 20001, 20000, 0), b)
	}
	checkFound(t, matrix(2, 2, 1, 20000, 20000, 0), []int{1, 20000}, 1, 0)
	// In u the second row is -2 and 1.
	m := matrix(2, 1, 1, 2)
	checkFound(t, m, []int{200000000, limit}, 200000000)
	checkFound(t, m, []int{-200000000, -limit}, -200000000)
	checkRefuted(t, m, []int{100000000, 0}, ratio(1, 200000000), ratio(-1, limit))
	checkRefuted(t, m, []int{-100000000, 0}, ratio(-1, 200000000), ratio(1, limit))
	// There is no solution, but what would refute it is beyond the limit.
	known := answer{solving: solutionNone, refuting: solutionFail}
	checkAnswer(t, m, []int{100000001, 0}, known)
	checkAnswer(t, m, []int{100000000, -1}, known)
	checkAnswer(t, m, []int{-100000000, 1}, known)
	checkAnswer(t, m, []int{200000000, 0}, known)
	checkAnswer(t, m, []int{-200000000, 0}, known)
	checkAnswer(t, m, []int{limit, limit}, known)
	checkFailed(t, m, []int{200000001, 0})
	checkFailed(t, m, []int{200000000, -1})
	checkFailed(t, m, []int{-200000001, 0})
	checkFailed(t, m, []int{limit, limit - 1})
	checkRefuted(t, matrix(1, 1, 0), []int{200000000}, ratio(1, limit))
	checkRefuted(t, matrix(1, 1, 0), []int{-200000000}, ratio(-1, limit))
	for _, n := range []int{200000001, -200000001, limit, -limit} {
		checkAnswer(t, matrix(1, 1, 0), []int{n}, known)
		checkAnswer(t, matrix(1, 0), []int{n}, known)
		checkAnswer(t, matrix(2, 1, 1, 0), []int{1, n}, known)
		// Only what refutes it needs to be within the limit.
		checkRefuted(t, matrix(2, 1, 2, 0), []int{1, n}, ratio(1, 2), ratio(0, 1))
		checkRefuted(t, matrix(2, 0), []int{1, n}, ratio(1, 2), ratio(0, 1))
		checkAnswer(t, matrix(2, 0), []int{n, 1}, known)
	}
	// A number of c behind one that would refute the system is beyond the limit.
	checkFailed(t, matrix(2, 1, 2, 4), []int{200000001, 0})
	checkRefuted(t, matrix(2, 1, 2, 4), []int{199999999, 0}, ratio(1, 2), ratio(0, 1))
}

// TestSolutionsBeyondTheLimit has systems of which it is known that they have solutions.
func TestSolutionsBeyondTheLimit(t *testing.T) {
	open := answer{solving: solutionFail, refuting: solutionNone}
	// In v the first column is 2 and -1.
	m := matrix(1, 2, 3, 5)
	checkFound(t, m, []int{200000000}, limit, -200000000)
	checkFound(t, m, []int{-200000000}, -limit, 200000000)
	for _, n := range []int{200000001, -200000001, limit, -limit} {
		checkAnswer(t, m, []int{n}, open)
		checkAnswer(t, matrix(1, 2, 5, 3), []int{n}, open)
		if !isSolvable(m, []int{n}) {
			t.Errorf("%v with %d cannot be solved", m, n)
		}
	}
	checkSolution(t, m, []int{200000001}, []int{66666667, 0}, true)
	checkSolution(t, m, []int{limit}, []int{0, 80000000}, true)
	// Without a solution it does not matter how great the numbers of one would be.
	for _, n := range []int{limit, -limit, 200000001, 1} {
		for _, added := range []int{1, -1, 5, 199999999, -199999999} {
			checkRefuted(t, matrix(2, 3, 3, 5, 0, 0, 0, 6), []int{n, added}, ratio(0, 1), ratio(1, 6))
			checkRefuted(t, matrix(2, 2, 3, 5, 0, 0), []int{n, added}, ratio(0, 1), inRange(big.NewRat(1, int64(2*added))))
		}
	}
	checkAnswer(t, matrix(2, 3, 3, 5, 0, 0, 0, 6), []int{limit, 6}, open)
	checkAnswer(t, matrix(2, 2, 3, 5, 0, 0), []int{limit, 0}, open)
	checkFound(t, matrix(2, 3, 3, 5, 0, 0, 0, 6), []int{200000000, 6}, limit, -200000000, 1)
}

func TestAnswersRefuse(t *testing.T) {
	for _, m := range noMatrices() {
		for n := range 4 {
			checkFailed(t, m, make([]int, n))
			checkFailed(t, m, slices.Repeat([]int{1}, n))
		}
		if 0 <= m.Rows && m.Rows <= maxSize+1 {
			checkFailed(t, m, make([]int, m.Rows))
		}
	}
	checkFailed(t, matrix(maxSize+1, 0), append(make([]int, maxSize), 1))
	for rows := range maxSize + 1 {
		for _, cols := range []int{0, 1, 3, rows} {
			m := diagonal(rows, cols, 2, 2, 2)
			for _, n := range []int{0, 1, 2, 3, rows - 1, rows + 1, maxSize, maxSize + 1, 1000} {
				if n >= 0 && n != rows {
					checkFailed(t, m, make([]int, n))
					checkFailed(t, m, slices.Repeat([]int{1}, n))
				}
			}
		}
	}
	for _, n := range append(beyond, limit+2, -limit-2, 1<<33, 3<<40) {
		for place := range 3 {
			b := []int{1, 2, 3}
			b[place] = n
			checkFailed(t, identity(3), b)
			checkFailed(t, diagonal(3, 3), b)
			checkFailed(t, matrix(3, 0), b)
		}
		checkFailed(t, matrix(1, 1, 1), []int{n})
		checkFailed(t, matrix(1, 1, 2), []int{n})
		checkFailed(t, matrix(1, 1, limit), []int{n})
		checkFailed(t, impl.Matrix{}, []int{n})
		checkFailed(t, matrix(1, 1, n), []int{0})
		checkFailed(t, matrix(2, 2, 1, 0, 0, n), []int{1, 1})
		// The first number would refute the system.
		checkFailed(t, matrix(2, 1, 2, 0), []int{1, n})
	}
}

func TestAnswersShareNoMemory(t *testing.T) {
	for i, arg := range append(oblongs(), matrix(0, 3), identity(3), diagonal(2, 2)) {
		if i%5 != 0 && i%7 != 0 {
			continue
		}
		for _, right := range sides(arg, i) {
			m, whole := spare(arg)
			wholeOfB := append(slices.Clone(right), 71, 72, 73, 74)
			b := wholeOfB[:len(right)]
			kept, keptB := slices.Clone(whole), slices.Clone(wholeOfB)
			x, solving := impl.SolveInteger(m, b)
			y, refuting := impl.RefuteInteger(m, b)
			want := answer{slices.Clone(x), solving, slices.Clone(y), refuting, ""}
			impl.IsSolution(m, b, x)
			impl.IsRefutation(m, b, y)
			if !slices.Equal(x, want.x) || !slices.Equal(y, want.y) {
				t.Fatalf("%v or %v was changed", x, y)
			}
			for place := range x[:cap(x)] {
				x[:cap(x)][place] = -99
			}
			for place := range y[:cap(y)] {
				y[:cap(y)][place] = ratio(-99, -99)
			}
			if !slices.Equal(whole, kept) || !slices.Equal(wholeOfB, keptB) {
				t.Fatalf("%v or %v was changed, or its memory is that of a result", arg, right)
			}
			checkAnswer(t, m, b, want)
		}
	}
}
