package tests

import (
	"math"
	"slices"
	"testing"

	"loop.example/g03411/impl"
)

const (
	opSwap   = 0
	opNegate = 1
	opAdd    = 2
	maxOps   = 40
)

func swapRows(i, j int) impl.RowOp { return impl.RowOp{Kind: opSwap, I: i, J: j} }

func negateRow(i int) impl.RowOp { return impl.RowOp{Kind: opNegate, I: i, J: i} }

// addRow adds row j, as often as told, to row i.
func addRow(i, j, times int) impl.RowOp { return impl.RowOp{Kind: opAdd, I: i, J: j, Times: times} }

// noKinds holds kinds next to the three and such whose low bits are those of one of them.
var noKinds = []int{-1, 3, 4, -2, 1 << 8, 1<<8 + 1, 1 << 32, 1<<32 + 2, math.MaxInt, math.MinInt, math.MinInt + 1}

// opsOf returns the operations on a count of rows, with additions of each of the multiples.
func opsOf(rows int, multiples ...int) []impl.RowOp {
	var l []impl.RowOp
	for i := range rows {
		l = append(l, negateRow(i))
		for j := range rows {
			if i == j {
				continue
			}
			l = append(l, swapRows(i, j))
			for _, times := range multiples {
				l = append(l, addRow(i, j, times))
			}
		}
	}
	return l
}

// noOpsFor holds what is no operation on a count of rows, each for a reason of its own as far as there are rows for it.
func noOpsFor(rows int) []impl.RowOp {
	var l []impl.RowOp
	for _, kind := range noKinds {
		l = append(l, impl.RowOp{Kind: kind, I: 0, J: 1}, impl.RowOp{Kind: kind, I: 0, J: 0}, impl.RowOp{Kind: kind, I: 0, J: 1, Times: 1})
	}
	for _, n := range append([]int{-1, -2, rows, rows + 1, maxSize, maxSize + 1}, beyond...) {
		l = append(l, swapRows(n, 0), swapRows(0, n), negateRow(n), addRow(n, 0, 1), addRow(0, n, 1), addRow(n, 0, 0), addRow(0, n, 0))
		l = append(l, swapRows(n, n+1), addRow(n, n+1, 1))
	}
	for i := range rows {
		for j := range rows {
			if i == j {
				l = append(l, swapRows(i, i), addRow(i, i, 0), addRow(i, i, 1), addRow(i, i, -1), addRow(i, i, -2), addRow(i, i, limit))
			} else {
				l = append(l, impl.RowOp{Kind: opNegate, I: i, J: j})
			}
			for _, times := range append([]int{1, -1, limit, -limit}, beyond...) {
				l = append(l, impl.RowOp{Kind: opSwap, I: i, J: j, Times: times}, impl.RowOp{Kind: opNegate, I: i, J: j, Times: times})
			}
			for _, times := range beyond {
				l = append(l, addRow(i, j, times))
			}
		}
	}
	// For a few rows some row numbers above are in range after all.
	return slices.DeleteFunc(l, func(x impl.RowOp) bool { return fits(x, rows) })
}

// fits tells what an operation is in the words of the specification.
func fits(x impl.RowOp, rows int) bool {
	ranges := rows >= 0 && rows <= maxSize && x.I >= 0 && x.I < rows && x.J >= 0 && x.J < rows && x.Times >= -limit && x.Times <= limit
	swaps := x.Kind == opSwap && x.I != x.J && x.Times == 0
	negates := x.Kind == opNegate && x.J == x.I && x.Times == 0
	adds := x.Kind == opAdd && x.I != x.J
	return ranges && (swaps || negates || adds)
}

// afterOp builds the matrix after an operation cell by cell, and tells whether all of row J times Times is within the limit.
func afterOp(m impl.Matrix, x impl.RowOp) (impl.Matrix, bool) {
	within := true
	cell := func(row, col int) int { return m.Cells[row*m.Cols+col] }
	after := built(m.Rows, m.Cols, func(row, col int) int {
		switch {
		case x.Kind == opSwap && row == x.I:
			return cell(x.J, col)
		case x.Kind == opSwap && row == x.J:
			return cell(x.I, col)
		case x.Kind == opNegate && row == x.I:
			return -cell(row, col)
		case x.Kind == opAdd && row == x.I:
			more := cell(x.J, col) * x.Times
			within = within && more >= -limit && more <= limit
			return cell(row, col) + more
		}
		return cell(row, col)
	})
	return after, within
}

// checkOp compares DoRowOp with what is built cell by cell.
func checkOp(t *testing.T, m impl.Matrix, x impl.RowOp) {
	t.Helper()
	got, ok := impl.DoRowOp(m, x)
	want, within := afterOp(m, x)
	name := "the operation " + impl.FormatInts([]int{x.Kind, x.I, x.J, x.Times})
	if !within {
		checkNoMatrix(t, name, got, ok)
		return
	}
	checkMatrix(t, name, got, ok, want)
}

func TestRowOpConstants(t *testing.T) {
	if impl.OpSwap != opSwap || impl.OpNegate != opNegate || impl.OpAdd != opAdd || impl.MaxOps != maxOps {
		t.Errorf("the kinds are %d, %d and %d, and MaxOps is %d", impl.OpSwap, impl.OpNegate, impl.OpAdd, impl.MaxOps)
	}
}

func TestIsRowOp(t *testing.T) {
	for rows := range maxSize + 1 {
		for _, x := range opsOf(rows, 0, 1, -1, 2, -7, limit, -limit) {
			if !impl.IsRowOp(x, rows) {
				t.Errorf("IsRowOp(%v, %d) = false", x, rows)
			}
		}
		for _, x := range noOpsFor(rows) {
			if impl.IsRowOp(x, rows) {
				t.Errorf("IsRowOp(%v, %d) = true", x, rows)
			}
		}
	}
	for _, kind := range append([]int{opSwap, opNegate, opAdd}, noKinds...) {
		for i := -2; i <= maxSize+2; i++ {
			for j := -2; j <= maxSize+2; j++ {
				for _, times := range []int{0, 1, -1, limit, limit + 1, -limit - 1} {
					x := impl.RowOp{Kind: kind, I: i, J: j, Times: times}
					for _, rows := range []int{-1, 0, 1, 2, 3, maxSize - 1, maxSize, maxSize + 1} {
						if got := impl.IsRowOp(x, rows); got != fits(x, rows) {
							t.Errorf("IsRowOp(%v, %d) = %t", x, rows, got)
						}
					}
				}
			}
		}
	}
}

func TestIsRowOpNeedsRowsInRange(t *testing.T) {
	for _, x := range opsOf(3, 0, 1) {
		for _, rows := range append([]int{-1, -maxSize, 0, maxSize + 1, maxSize + 2, 100}, beyond...) {
			if impl.IsRowOp(x, rows) {
				t.Errorf("IsRowOp(%v, %d) = true", x, rows)
			}
		}
	}
}

func TestDoRowOp(t *testing.T) {
	cases := []struct {
		op   impl.RowOp
		want impl.Matrix
	}{
		{swapRows(0, 2), matrix(3, 2, 5, 6, 3, 4, 1, 2)},
		{swapRows(2, 1), matrix(3, 2, 1, 2, 5, 6, 3, 4)},
		{negateRow(1), matrix(3, 2, 1, 2, -3, -4, 5, 6)},
		{addRow(0, 1, 10), matrix(3, 2, 31, 42, 3, 4, 5, 6)},
		{addRow(1, 0, -3), matrix(3, 2, 1, 2, 0, -2, 5, 6)},
		{addRow(2, 0, 0), matrix(3, 2, 1, 2, 3, 4, 5, 6)},
	}
	for _, c := range cases {
		got, ok := impl.DoRowOp(matrix(3, 2, 1, 2, 3, 4, 5, 6), c.op)
		checkMatrix(t, "an operation on three rows", got, ok, c.want)
	}
	for _, m := range someMatrices() {
		for _, x := range opsOf(m.Rows, 0, 1, -1, 3, -20000, limit, -limit) {
			checkOp(t, m, x)
		}
	}
}

func TestDoRowOpLimits(t *testing.T) {
	cases := []struct {
		name        string
		i, j, times int
		want        int
		ok          bool
	}{
		{"a multiple at the limit", 0, 200000000, 2, limit, true},
		{"a multiple at the negative limit", 0, 200000000, -2, -limit, true},
		{"the limit taken away", limit, limit, -1, 0, true},
		{"a sum at the limit", 399999999, 1, 1, limit, true},
		{"a sum at the negative limit", -399999999, 1, -1, -limit, true},
		{"from next to a limit to 0", 1 - limit, limit - 1, 1, 0, true},
		{"0 times the limit", 5, limit, 0, 5, true},
		{"the limit times 0", 5, 0, limit, 5, true},
		{"a sum beyond the limit", limit, 1, 1, 0, false},
		{"a sum beyond the negative limit", -limit, 1, -1, 0, false},
		{"a multiple and a sum beyond the limit", -1, 200000001, 2, 0, false},
		{"a multiple beyond the limit, but the sum is at it", -2, 200000001, 2, 0, false},
		{"a multiple beyond the negative limit, but the sum is at it", 2, 200000001, -2, 0, false},
		{"twice the limit, but the sum is the limit", -limit, limit, 2, 0, false},
		{"the greatest multiple of all", limit, limit, limit, 0, false},
		{"the least multiple of all", limit, limit, -limit, 0, false},
	}
	for _, c := range cases {
		// Whichever column it is in makes the whole operation fail, whatever the others are.
		for place := range 3 {
			m := matrix(2, 3, 7, 7, 7, 0, 0, 0)
			want := matrix(2, 3, 7, 7, 7, 0, 0, 0)
			m.Cells[place], m.Cells[3+place], want.Cells[place], want.Cells[3+place] = c.i, c.j, c.want, c.j
			got, ok := impl.DoRowOp(m, addRow(0, 1, c.times))
			if c.ok {
				checkMatrix(t, c.name, got, ok, want)
			} else {
				checkNoMatrix(t, c.name, got, ok)
			}
		}
	}
	// The other rows do not matter, and what is not multiplied has no multiple beyond the limit.
	m := matrix(3, 1, limit, -limit, 1)
	for _, x := range append(opsOf(3, 0), addRow(0, 2, -1), addRow(1, 2, 1), addRow(2, 0, -1), addRow(2, 1, 1), addRow(1, 2, limit)) {
		got, ok := impl.DoRowOp(m, x)
		if want, _ := afterOp(m, x); !ok || !same(got, want) {
			t.Errorf("DoRowOp(%v, %v) = %v, %t, want %v", m, x, got, ok, want)
		}
	}
}

func TestDoRowOpRefuses(t *testing.T) {
	for _, rows := range []int{0, 1, 2, 3, maxSize} {
		for _, m := range []impl.Matrix{mixed(rows, 3, 9, rows), matrix(rows, 0), matrix(rows, 2, make([]int, 2*rows)...)} {
			for _, x := range noOpsFor(rows) {
				got, ok := impl.DoRowOp(m, x)
				checkNoMatrix(t, "DoRowOp of what is no operation", got, ok)
			}
		}
	}
	for _, m := range noMatrices() {
		for _, x := range append(opsOf(3, 0, 1, -1), addRow(0, 1, limit)) {
			got, ok := impl.DoRowOp(m, x)
			checkNoMatrix(t, "DoRowOp of a matrix that is not valid", got, ok)
		}
	}
	// The result would be valid.
	got, ok := impl.DoRowOp(matrix(2, 1, limit+1, 1), addRow(0, 1, -1))
	checkNoMatrix(t, "a cell beyond the limit brought back", got, ok)
}

func TestRowAddedToItself(t *testing.T) {
	for rows := range maxSize + 1 {
		for i := range rows {
			for _, times := range []int{0, 1, -1, -2, 2, limit, -limit} {
				x := addRow(i, i, times)
				if impl.IsRowOp(x, rows) {
					t.Errorf("IsRowOp(%v, %d) = true", x, rows)
				}
				for _, m := range []impl.Matrix{mixed(rows, 2, 9, i), matrix(rows, 0), matrix(rows, 1, make([]int, rows)...)} {
					got, ok := impl.DoRowOp(m, x)
					checkNoMatrix(t, "DoRowOp of a row added to itself", got, ok)
					got, ok = impl.DoRowOps(m, []impl.RowOp{x})
					checkNoMatrix(t, "DoRowOps of a row added to itself", got, ok)
					got, ok = impl.DoRowOps(m, []impl.RowOp{negateRow(i), x, negateRow(i)})
					checkNoMatrix(t, "DoRowOps of a row added to itself in between", got, ok)
				}
				got, ok := impl.OpMatrix(x, rows)
				checkNoMatrix(t, "OpMatrix of a row added to itself", got, ok)
				// What undoes it needs no rows, and is no operation either.
				undone := impl.UndoRowOp(x)
				if undone != addRow(i, i, -times) || impl.IsRowOp(undone, rows) {
					t.Errorf("UndoRowOp(%v) = %v", x, undone)
				}
			}
		}
	}
}

func TestUndoRowOp(t *testing.T) {
	for _, x := range opsOf(4, samples...) {
		want := x
		if x.Kind == opAdd {
			want.Times = -x.Times
		}
		if got := impl.UndoRowOp(x); got != want {
			t.Errorf("UndoRowOp(%v) = %v, want %v", x, got, want)
		}
		if got := impl.UndoRowOp(impl.UndoRowOp(x)); got != x {
			t.Errorf("UndoRowOp(%v) twice = %v", x, got)
		}
	}
	// What is no operation is undone in the same words: only the kind counts.
	for _, kind := range append([]int{opSwap, opNegate, opAdd}, noKinds...) {
		for _, times := range append([]int{0, 1, -1, 5, limit, -limit}, beyond...) {
			for _, n := range beyond {
				x := impl.RowOp{Kind: kind, I: n, J: -n, Times: times}
				want := x
				if kind == opAdd {
					want.Times = -times
				}
				if got := impl.UndoRowOp(x); got != want {
					t.Errorf("UndoRowOp(%v) = %v, want %v", x, got, want)
				}
			}
		}
	}
}

func TestOpMatrix(t *testing.T) {
	cases := []struct {
		op   impl.RowOp
		want impl.Matrix
	}{
		{swapRows(0, 1), matrix(3, 3, 0, 1, 0, 1, 0, 0, 0, 0, 1)},
		{negateRow(2), matrix(3, 3, 1, 0, 0, 0, 1, 0, 0, 0, -1)},
		{addRow(2, 0, 5), matrix(3, 3, 1, 0, 0, 0, 1, 0, 5, 0, 1)},
		{addRow(0, 2, -limit), matrix(3, 3, 1, 0, -limit, 0, 1, 0, 0, 0, 1)},
	}
	for _, c := range cases {
		got, ok := impl.OpMatrix(c.op, 3)
		checkMatrix(t, "OpMatrix for three rows", got, ok, c.want)
	}
	for rows := range maxSize + 1 {
		one := matrixOr(impl.IdentityMatrix(rows))
		for _, x := range opsOf(rows, 0, 1, -1, limit, -limit) {
			got, ok := impl.OpMatrix(x, rows)
			want, _ := afterOp(one, x)
			checkMatrix(t, "OpMatrix for "+impl.FormatInt(rows)+" rows", got, ok, want)
		}
	}
}

func TestOpMatrixRefuses(t *testing.T) {
	for rows := range maxSize + 1 {
		for _, x := range noOpsFor(rows) {
			got, ok := impl.OpMatrix(x, rows)
			checkNoMatrix(t, "OpMatrix of what is no operation", got, ok)
		}
	}
	for _, x := range opsOf(3, 0, 1) {
		for _, rows := range append([]int{-1, -maxSize, 0, maxSize + 1, maxSize + 2}, beyond...) {
			got, ok := impl.OpMatrix(x, rows)
			checkNoMatrix(t, "OpMatrix for "+impl.FormatInt(rows)+" rows", got, ok)
		}
	}
}

// mixedOps returns operations with small multiples that look mixed, but are the same in every run. There must be two rows.
func mixedOps(rows, count, seed int) []impl.RowOp {
	choices := opsOf(rows, 0, 1, -1, 2, -2)
	l := make([]impl.RowOp, count)
	for i, place := range mixed(1, maxSize, len(choices)-1, seed).Cells[:count] {
		l[i] = choices[max(place, -place)]
	}
	return l
}

func TestDoRowOps(t *testing.T) {
	a := matrix(2, 2, 1, 2, 3, 4)
	got, ok := impl.DoRowOps(a, []impl.RowOp{addRow(1, 0, -3), swapRows(0, 1)})
	checkMatrix(t, "an addition and a swap", got, ok, matrix(2, 2, 0, -2, 1, 2))
	got, ok = impl.DoRowOps(a, []impl.RowOp{swapRows(0, 1), addRow(1, 0, -3)})
	checkMatrix(t, "a swap and an addition", got, ok, matrix(2, 2, 3, 4, -8, -10))
	got, ok = impl.DoRowOps(a, []impl.RowOp{swapRows(0, 1), negateRow(0), addRow(1, 0, 2), negateRow(1)})
	checkMatrix(t, "four operations", got, ok, matrix(2, 2, -3, -4, 5, 6))
	for rows := 2; rows <= 5; rows++ {
		for seed := range 40 {
			l := mixedOps(rows, seed%9, seed)
			m := mixed(rows, 4, 9, seed)
			want := m
			for _, x := range l {
				want, _ = afterOp(want, x)
			}
			got, ok := impl.DoRowOps(m, l)
			checkMatrix(t, "operations one by one", got, ok, want)
		}
	}
	for _, m := range someMatrices() {
		for _, l := range [][]impl.RowOp{nil, {}} {
			got, ok := impl.DoRowOps(m, l)
			checkMatrix(t, "no operations", got, ok, m)
		}
	}
}

func TestDoRowOpsCount(t *testing.T) {
	m := matrix(2, 1, 1, 0)
	for count := range 3 * maxOps {
		for _, x := range []impl.RowOp{swapRows(0, 1), negateRow(0), addRow(0, 1, 1), addRow(1, 0, 1)} {
			l := slices.Repeat([]impl.RowOp{x}, count)
			got, ok := impl.DoRowOps(m, l)
			if count > maxOps {
				checkNoMatrix(t, impl.FormatInt(count)+" operations", got, ok)
				continue
			}
			want := m
			for range count {
				want, _ = afterOp(want, x)
			}
			checkMatrix(t, impl.FormatInt(count)+" operations", got, ok, want)
		}
	}
}

func TestDoRowOpsRefuses(t *testing.T) {
	m := matrix(2, 2, 1, 2, 3, 4)
	for place := range 4 {
		for _, x := range noOpsFor(2) {
			l := []impl.RowOp{swapRows(0, 1), negateRow(0), addRow(0, 1, 1)}
			got, ok := impl.DoRowOps(m, slices.Insert(l, place, x))
			checkNoMatrix(t, "DoRowOps with what is no operation", got, ok)
		}
	}
	for _, x := range noMatrices() {
		for _, l := range [][]impl.RowOp{nil, {}, {negateRow(0)}, {swapRows(0, 1), swapRows(0, 1)}} {
			got, ok := impl.DoRowOps(x, l)
			checkNoMatrix(t, "DoRowOps of a matrix that is not valid", got, ok)
		}
	}
	// What is beyond the limit on the way is not brought back by a later operation.
	big := matrix(2, 1, limit, 1)
	got, ok := impl.DoRowOps(big, []impl.RowOp{addRow(0, 1, 1), addRow(0, 1, -1)})
	checkNoMatrix(t, "a sum beyond the limit on the way", got, ok)
	got, ok = impl.DoRowOps(big, []impl.RowOp{addRow(0, 1, -1), addRow(0, 1, 1)})
	checkMatrix(t, "the same the other way around", got, ok, big)
	got, ok = impl.DoRowOps(big, []impl.RowOp{addRow(1, 0, -2), addRow(1, 0, 2)})
	checkNoMatrix(t, "a multiple beyond the limit on the way", got, ok)
}

func TestUndoRowOps(t *testing.T) {
	l := []impl.RowOp{addRow(1, 0, -3), swapRows(0, 1), negateRow(2), addRow(0, 2, 5)}
	want := []impl.RowOp{addRow(0, 2, -5), negateRow(2), swapRows(0, 1), addRow(1, 0, 3)}
	if got := impl.UndoRowOps(l); !slices.Equal(got, want) {
		t.Errorf("UndoRowOps(%v) = %v, want %v", l, got, want)
	}
	for _, none := range [][]impl.RowOp{nil, {}} {
		if got := impl.UndoRowOps(none); len(got) != 0 {
			t.Errorf("UndoRowOps of no operations = %v", got)
		}
	}
	// Neither the length of the list nor what is in it is restricted.
	all := append(opsOf(5, samples...), noOpsFor(3)...)
	for count := range len(all) {
		part := all[:count]
		got := impl.UndoRowOps(part)
		if len(got) != count {
			t.Fatalf("UndoRowOps of %d operations = %d operations", count, len(got))
		}
		for i, x := range part {
			if got[count-1-i] != impl.UndoRowOp(x) {
				t.Fatalf("UndoRowOps of %d operations has %v for %v", count, got[count-1-i], x)
			}
		}
	}
}

func TestRowOpsAreUndone(t *testing.T) {
	done := 0
	for _, m := range append(someMatrices(), mixed(3, 3, limit, 6), mixed(4, 1, limit, 7)) {
		for _, x := range opsOf(m.Rows, 0, 1, -1, 3, -50, 20000, limit) {
			after, ok := impl.DoRowOp(m, x)
			if !ok {
				continue
			}
			done++
			// Row J is the same before and after, so undoing never fails.
			back, ok := impl.DoRowOp(after, impl.UndoRowOp(x))
			checkMatrix(t, "an operation undone", back, ok, m)
		}
	}
	if done < 1000 {
		t.Errorf("only %d operations were done", done)
	}
	for rows := 2; rows <= 6; rows++ {
		for seed := range 60 {
			l := mixedOps(rows, seed%11, seed)
			m := mixed(rows, 3, 100, seed)
			back, ok := impl.DoRowOps(matrixOr(impl.DoRowOps(m, l)), impl.UndoRowOps(l))
			checkMatrix(t, "operations undone", back, ok, m)
			again := impl.UndoRowOps(impl.UndoRowOps(l))
			if !slices.Equal(again, l) {
				t.Errorf("UndoRowOps(%v) twice = %v", l, again)
			}
		}
	}
}

func TestRowOpsAreProducts(t *testing.T) {
	for _, m := range append(someMatrices(), mixed(3, 3, limit, 6), mixed(4, 1, limit, 7)) {
		for _, x := range opsOf(m.Rows, 0, 1, -1, 3, -50, 20000, limit) {
			op := matrixOr(impl.OpMatrix(x, m.Rows))
			if after, ok := impl.DoRowOp(m, x); ok {
				product, ok := impl.MultiplyMatrices(op, m)
				checkMatrix(t, "an operation as a product", product, ok, after)
			}
			back := matrixOr(impl.OpMatrix(impl.UndoRowOp(x), m.Rows))
			one := matrixOr(impl.IdentityMatrix(m.Rows))
			product, ok := impl.MultiplyMatrices(op, back)
			checkMatrix(t, "an operation times what undoes it", product, ok, one)
		}
	}
	for rows := 2; rows <= 6; rows++ {
		for seed := range 60 {
			l := mixedOps(rows, seed%11, seed)
			m := mixed(rows, 3, 100, seed)
			product := matrixOr(impl.IdentityMatrix(rows))
			for _, x := range l {
				product = matrixOr(impl.MultiplyMatrices(matrixOr(impl.OpMatrix(x, rows)), product))
			}
			account, ok := impl.DoRowOps(matrixOr(impl.IdentityMatrix(rows)), l)
			checkMatrix(t, "operations on the identity matrix", account, ok, product)
			after, ok := impl.DoRowOps(m, l)
			checkMatrix(t, "operations as products", after, ok, matrixOr(impl.MultiplyMatrices(product, m)))
		}
	}
}

func TestRowOpsShareNoMemory(t *testing.T) {
	m, whole := spare(matrix(3, 2, 1, 2, 3, 4, 5, 6))
	bare, wholeOfBare := spare(matrix(3, 0))
	ops := append([]impl.RowOp{addRow(0, 1, 2), swapRows(1, 2), negateRow(0)}, make([]impl.RowOp, 5)...)
	l := ops[:3]
	kept, keptBare, keptOps := slices.Clone(whole), slices.Clone(wholeOfBare), slices.Clone(ops)
	check := func() {
		t.Helper()
		if !slices.Equal(whole, kept) || !slices.Equal(wholeOfBare, keptBare) || !slices.Equal(ops, keptOps) {
			t.Fatal("an argument was changed, or its memory is that of the result")
		}
	}
	take := func(m impl.Matrix, ok bool) {
		t.Helper()
		if !ok {
			t.Error("a result was expected")
		}
		cells := m.Cells[:cap(m.Cells)]
		for i := range cells {
			cells[i] = -99
		}
		check()
	}
	for _, x := range append(opsOf(3, 0, 1), l...) {
		take(impl.DoRowOp(m, x))
		take(impl.DoRowOp(bare, x))
		take(impl.DoRowOps(m, []impl.RowOp{x}))
	}
	for count := range len(l) + 1 {
		take(impl.DoRowOps(m, l[:count]))
		take(impl.DoRowOps(bare, l[:count]))
		undone := impl.UndoRowOps(l[:count])
		undone = undone[:cap(undone)]
		for i := range undone {
			undone[i] = impl.RowOp{Kind: -99, I: -99, J: -99, Times: -99}
		}
		check()
	}
	first := matrixOr(impl.OpMatrix(negateRow(0), 2))
	first.Cells[3] = 7
	second, ok := impl.OpMatrix(negateRow(0), 2)
	checkMatrix(t, "OpMatrix after a change to an earlier result", second, ok, matrix(2, 2, -1, 0, 0, 1))
}
