package tests

import (
	"fmt"
	"math"
	"math/big"
	"regexp"
	"slices"
	"strconv"
	"strings"
	"testing"

	"loop.example/g03411/impl"
)

// maxText is the limit of the bytes of a text that is read as a matrix.
const maxText = 8000

// textOf writes a valid matrix row by row, without the program's own functions.
func textOf(m impl.Matrix) string {
	var rows []string
	for row := range m.Rows {
		var cells []string
		for _, cell := range m.Cells[row*m.Cols : (row+1)*m.Cols] {
			cells = append(cells, strconv.Itoa(cell))
		}
		rows = append(rows, strings.Join(cells, " "))
	}
	if m.Cols == 0 {
		rows = nil
	}
	return fmt.Sprintf("%dx%d[%s]", m.Rows, m.Cols, strings.Join(rows, ";"))
}

// manyMatrices adds matrices of every size to the others, without columns and without rows among them.
func manyMatrices() []impl.Matrix {
	l := someMatrices()
	for rows := range maxSize + 1 {
		for cols := range maxSize + 1 {
			l = append(l, mixed(rows, cols, []int{1, 12, 700, limit}[(rows+cols)%4], rows*cols))
		}
	}
	return l
}

var (
	matrixText = regexp.MustCompile(`^(0|[1-9][0-9]?)x(0|[1-9][0-9]?)\[([-0-9 ;]*)\]$`)
	numberText = regexp.MustCompile(`^(0|-?[1-9][0-9]{0,8})$`)
	ratioText  = regexp.MustCompile(`^(?:0|-?[1-9][0-9]{0,8})(?:/(?:[2-9]|[1-9][0-9]{1,8}))?$`)
)

// readMatrix reads a text by another road: split at its separators, and each part held against a pattern.
func readMatrix(s string) (impl.Matrix, bool) {
	parts := matrixText.FindStringSubmatch(s)
	if parts == nil {
		return impl.Matrix{}, false
	}
	rows, _ := strconv.Atoi(parts[1])
	cols, _ := strconv.Atoi(parts[2])
	m := matrix(rows, cols)
	if rows > maxSize || cols > maxSize {
		return impl.Matrix{}, false
	}
	if rows == 0 || cols == 0 {
		return m, parts[3] == ""
	}
	lines := strings.Split(parts[3], ";")
	for _, line := range lines {
		words := strings.Split(line, " ")
		for _, word := range words {
			n, _ := strconv.Atoi(word)
			if !numberText.MatchString(word) || n > limit || n < -limit {
				return impl.Matrix{}, false
			}
			m.Cells = append(m.Cells, n)
		}
		if len(words) != cols {
			return impl.Matrix{}, false
		}
	}
	return m, len(lines) == rows
}

// checkText compares what ParseMatrix makes of a text with what the other road makes of it.
func checkText(t *testing.T, s string) {
	t.Helper()
	got, ok := impl.ParseMatrix(s)
	want, fits := readMatrix(s)
	if fits {
		checkMatrix(t, fmt.Sprintf("ParseMatrix(%q)", s), got, ok, want)
	} else {
		checkNoMatrix(t, fmt.Sprintf("ParseMatrix(%q)", s), got, ok)
	}
}

func TestFormatMatrix(t *testing.T) {
	cases := []struct {
		m    impl.Matrix
		want string
	}{
		{matrix(2, 2, 1, 2, 3, -4), "2x2[1 2;3 -4]"}, {matrix(0, 3), "0x3[]"}, {matrix(2, 0), "2x0[]"}, {impl.Matrix{}, "0x0[]"},
		{matrix(1, 0), "1x0[]"}, {matrix(0, 1), "0x1[]"}, {matrix(maxSize, 0), "24x0[]"}, {matrix(0, maxSize), "0x24[]"},
		{matrix(1, 1, 0), "1x1[0]"}, {matrix(1, 1, -7), "1x1[-7]"}, {matrix(1, 3, 1, 2, 3), "1x3[1 2 3]"}, {matrix(3, 1, 1, 2, 3), "3x1[1;2;3]"},
		{matrix(1, 2, limit, -limit), "1x2[400000000 -400000000]"}, {matrix(2, 3, 0, 10, -20, 300, 0, 0), "2x3[0 10 -20;300 0 0]"},
	}
	for _, c := range cases {
		if got := impl.FormatMatrix(c.m); got != c.want {
			t.Errorf("FormatMatrix(%v) = %q, want %q", c.m, got, c.want)
		}
	}
	for _, m := range manyMatrices() {
		if got, want := impl.FormatMatrix(m), textOf(m); got != want {
			t.Errorf("FormatMatrix(%v) = %q, want %q", m, got, want)
		}
	}
}

func TestFormatMatrixRefuses(t *testing.T) {
	for _, m := range noMatrices() {
		if got := impl.FormatMatrix(m); got != "" {
			t.Errorf("FormatMatrix(%v) = %q, want the empty string", m, got)
		}
	}
}

func TestParseMatrixReadsBack(t *testing.T) {
	for _, m := range manyMatrices() {
		got, ok := impl.ParseMatrix(impl.FormatMatrix(m))
		checkMatrix(t, "ParseMatrix of "+impl.FormatMatrix(m), got, ok, m)
		got, ok = impl.ParseMatrix(textOf(m))
		checkMatrix(t, "ParseMatrix of "+textOf(m), got, ok, m)
	}
	for n := -1200; n <= 1200; n++ {
		m := matrix(1, 2, n, -n)
		got, ok := impl.ParseMatrix(impl.FormatMatrix(m))
		checkMatrix(t, "ParseMatrix of "+impl.FormatMatrix(m), got, ok, m)
	}
}

func TestLongestTextOfMatrix(t *testing.T) {
	m := built(maxSize, maxSize, func(int, int) int { return -limit })
	s := impl.FormatMatrix(m)
	if len(s) != 6342 || s != textOf(m) {
		t.Errorf("the longest text has %d bytes", len(s))
	}
	got, ok := impl.ParseMatrix(s)
	checkMatrix(t, "ParseMatrix of the longest text", got, ok, m)
	for _, length := range []int{len(s) + 1, maxText - 1, maxText, maxText + 1, 100 * maxText} {
		for _, filling := range []string{" ", "0", "]", ";0", "\x00", " -400000000"} {
			padding := strings.Repeat(filling, length)[:length-len(s)]
			for _, text := range []string{s + padding, padding + s, s[:6000] + padding + s[6000:]} {
				got, ok := impl.ParseMatrix(text)
				checkNoMatrix(t, "ParseMatrix of a text that is too long", got, ok)
			}
		}
	}
}

func TestMatrixWithoutColumnsInText(t *testing.T) {
	for rows := range maxSize + 1 {
		size := strconv.Itoa(rows)
		if got, want := impl.FormatMatrix(matrix(rows, 0)), size+"x0[]"; got != want {
			t.Errorf("FormatMatrix without columns = %q, want %q", got, want)
		}
		got, ok := impl.ParseMatrix(size + "x0[]")
		checkMatrix(t, "ParseMatrix without columns", got, ok, matrix(rows, 0))
		// Neither separators nor cells stand between the brackets, however many rows there are.
		for _, s := range []string{strings.Repeat(";", rows), strings.Repeat(";", max(rows-1, 0)), ";", " ", "0", "0;0", "-"} {
			if s != "" {
				got, ok := impl.ParseMatrix(size + "x0[" + s + "]")
				checkNoMatrix(t, "ParseMatrix of "+size+"x0["+s+"]", got, ok)
			}
		}
	}
}

func TestParseMatrixRefuses(t *testing.T) {
	texts := []string{
		"", " ", "x", "[]", "x[]", "0", "0x", "0x0", "0x0[", "0x0]", "x0[]", "0x[]", "0[]", "[1]", "1", "1 2", "none",
		"1x1[]", "1x1[1", "1x11]", "1x1 1]", "1x1(1)", "1x1{1}", "1X1[1]", "1*1[1]", "1,1[1]", "1\u00d71[1]", "1xx1[1]", "1x1[[1]]", "1x1[1]]", "1x1[1][",
		"1x1[1 2]", "1x1[1;2]", "1x2[1]", "1x2[1;2]", "2x1[1]", "2x1[1 2]", "2x1[1;2;3]", "2x2[1 2 3 4]", "2x2[1;2;3;4]", "2x2[1 2;3]", "2x2[1;2 3 4]",
		"2x2[1 2 3;4]", "2x2[1 2;3 4;]", "2x2[;1 2;3 4]", "2x2[1 2;;3 4]", "2x2[1 2;3 4;5 6]", "2x2[1 2; 3 4]", "2x2[1 2 ;3 4]", "2x2[1  2;3 4]", "2x2[1\t2;3 4]",
		"2x2[1,2;3,4]", "2x2[1 2\n3 4]", "1x2[1 2 ]", "1x2[ 1 2]", "1x2[ ]", "1x2[1 ]", "1x2[ 2]", "2x1[;]", "2x1[1;]", "2x1[;1]", "1x1[ ]", "1x1[;]",
		"1x1[01]", "1x1[00]", "1x1[-0]", "1x1[-]", "1x1[--1]", "1x1[+1]", "1x1[1-]", "1x1[1-1]", "1x2[1-1]", "1x1[1.0]", "1x1[1e3]", "1x1[0x1]", "1x1[1_0]", "1x1[a]", "1x1[1/2]",
		"1x1[400000001]", "1x1[-400000001]", "1x1[4000000000]", "1x1[9223372036854775808]", "1x1[18446744073709551617]", "2x2[1 2;3 400000001]",
		"01x1[1]", "1x01[1]", "00x0[]", "0x00[]", "-0x0[]", "0x-0[]", "-1x0[]", "0x-1[]", "-1x-1[1]", "-1x-1[]", "+1x1[1]", "1x+1[1]",
		"25x0[]", "0x25[]", "25x25[]", "100x0[]", "0x100[]", "400000000x0[]", "400000001x0[]", "4294967296x0[]", "4294967296x4294967296[]", "18446744073709551616x0[]",
		" 1x1[1]", "1x1[1] ", "1x1[1]\n", "\n1x1[1]", "1x1[1]\r\n", "1 x1[1]", "1x 1[1]", "1x1 [1]", "1x1[1 ]", "1x1[1]\x00", "\x001x1[1]", "1x1[1]1x1[1]",
		"0x0[0]", "0x3[1]", "0x3[1 2 3]", "0x3[ ]", "0x3[;]", "3x0[;;]", "3x0[;]", "3x0[0]", "3x0[1;2;3]", "0x0[ ]",
		"1x1[\u0661]", "1x1[\uff11]", "\uff11x1[1]", "1x1[\u22121]", "1x1[\u00b9]", "1x2[1\u00a02]", "\ufeff1x1[1]", "1x1\uff3b1\uff3d",
		"1x1[\xff]", "1x1[1\xff]", "\xff1x1[1]", "1x1[1]\xff", "1\xffx1[1]", "1x1[\xb1]", "1x1[\xc0\xb1]", "1x1[1\xc3]",
		strings.Repeat("1x1[1]", 2), strings.Repeat("0", 7999), strings.Repeat("[", 9000), "25x1[1" + strings.Repeat(";1", 24) + "]", "1x25[1" + strings.Repeat(" 1", 24) + "]",
	}
	for _, s := range texts {
		got, ok := impl.ParseMatrix(s)
		checkNoMatrix(t, fmt.Sprintf("ParseMatrix(%q)", s), got, ok)
	}
	for _, n := range beyond {
		for _, s := range []string{"1x1[%d]", "1x2[0 %d]", "2x1[%d;0]", "%dx0[]", "0x%d[]"} {
			got, ok := impl.ParseMatrix(fmt.Sprintf(s, n))
			checkNoMatrix(t, fmt.Sprintf("ParseMatrix of "+s, n), got, ok)
		}
	}
}

func TestParseMatrixChangedTexts(t *testing.T) {
	// Each place of a text loses its byte, or gets any other one in its place or before it.
	texts := []string{"0x0[]", "0x3[]", "3x0[]", "24x0[]", "1x1[0]", "1x1[-400000000]", "2x2[1 2;3 -4]", "1x3[10 0 -20]", "3x1[1;2;30]", "1x12[1 2 3 4 5 6 7 8 9 10 11 12]"}
	for _, s := range texts {
		checkText(t, s)
		for i := range len(s) + 1 {
			checkText(t, s[:i])
			checkText(t, s[i:])
			for b := range 256 {
				checkText(t, s[:i]+string([]byte{byte(b)})+s[i:])
				if i < len(s) {
					checkText(t, s[:i]+string([]byte{byte(b)})+s[i+1:])
				}
			}
			if i < len(s) {
				checkText(t, s[:i]+s[i+1:])
			}
		}
	}
}

// wordsOf calls the function with all texts of up to some length of the letters.
func wordsOf(letters string, length int, take func(s string)) {
	var longer func(s string)
	longer = func(s string) {
		take(s)
		if len(s) < length {
			for i := range len(letters) {
				longer(s + letters[i:i+1])
			}
		}
	}
	longer("")
}

func TestParseMatrixShortTexts(t *testing.T) {
	// Every text of some letters between the brackets, and every beginning of a text: accepted exactly where a matrix has it.
	for _, size := range []string{"0x0", "0x2", "2x0", "1x1", "1x2", "2x1", "2x2"} {
		wordsOf("01-; ", 5, func(s string) { checkText(t, size+"["+s+"]") })
	}
	wordsOf("025x[]-", 5, func(s string) { checkText(t, s) })
}

func TestFormatInts(t *testing.T) {
	cases := []struct {
		l    []int
		want string
	}{
		{nil, ""}, {[]int{}, ""}, {[]int{0}, "0"}, {[]int{1, -2}, "1 -2"}, {[]int{0, 0, 0}, "0 0 0"}, {[]int{10, 0, -30}, "10 0 -30"},
		{[]int{limit, -limit, limit + 1, -limit - 1}, "400000000 -400000000 400000001 -400000001"},
		{[]int{math.MaxInt, math.MinInt}, "9223372036854775807 -9223372036854775808"}, {[]int{math.MinInt}, "-9223372036854775808"},
	}
	for _, c := range cases {
		if got := impl.FormatInts(c.l); got != c.want {
			t.Errorf("FormatInts(%v) = %q, want %q", c.l, got, c.want)
		}
	}
	for length := range 200 {
		l := append(mixed(1, length, limit, length).Cells, beyond...)
		if got, want := impl.FormatInts(l), strings.Trim(fmt.Sprint(l), "[]"); got != want {
			t.Errorf("FormatInts(%v) = %q, want %q", l, got, want)
		}
	}
	long := slices.Repeat([]int{-7}, 10000)
	if got := impl.FormatInts(long); got != strings.Repeat("-7 ", 9999)+"-7" {
		t.Error("FormatInts of 10000 numbers is not their text")
	}
}

func TestFormatRatio(t *testing.T) {
	cases := []struct {
		r    impl.Ratio
		want string
	}{
		{ratio(-1, 2), "-1/2"}, {ratio(1, 2), "1/2"}, {ratio(3, 1), "3"}, {ratio(-3, 1), "-3"}, {ratio(0, 1), "0"}, {ratio(1, 1), "1"}, {ratio(10, 3), "10/3"},
		{ratio(limit, 1), "400000000"}, {ratio(-limit, 1), "-400000000"}, {ratio(1, limit), "1/400000000"}, {ratio(-1, limit), "-1/400000000"},
		{ratio(limit, limit-1), "400000000/399999999"}, {ratio(1-limit, limit), "-399999999/400000000"}, {none, "none"},
	}
	for _, c := range cases {
		if got := impl.FormatRatio(c.r); got != c.want {
			t.Errorf("FormatRatio(%v) = %q, want %q", c.r, got, c.want)
		}
	}
	for _, r := range someRatios() {
		if got, want := impl.FormatRatio(r), exact(r).RatString(); got != want {
			t.Errorf("FormatRatio(%v) = %q, want %q", r, got, want)
		}
	}
	for _, r := range noRatios {
		if got := impl.FormatRatio(r); got != "none" {
			t.Errorf("FormatRatio(%v) = %q, want none", r, got)
		}
	}
}

func TestParseRatioReadsBack(t *testing.T) {
	for _, r := range someRatios() {
		if got, ok := impl.ParseRatio(impl.FormatRatio(r)); got != r || !ok {
			t.Errorf("ParseRatio(%q) = %v, %t, want %v, true", impl.FormatRatio(r), got, ok, r)
		}
	}
	for _, n := range samples {
		want := ratio(n, 1)
		if got, ok := impl.ParseRatio(strconv.Itoa(n)); got != want || !ok {
			t.Errorf("ParseRatio of %d = %v, %t, want %v, true", n, got, ok, want)
		}
		for _, d := range samples {
			r := impl.MakeRatio(n, d)
			if got, ok := impl.ParseRatio(impl.FormatRatio(r)); got != r || ok != (d != 0) {
				t.Errorf("ParseRatio(%q) = %v, %t, want %v", impl.FormatRatio(r), got, ok, r)
			}
		}
	}
}

func TestParseRatioRefuses(t *testing.T) {
	texts := []string{
		"", "none", "None", "/", "-", "//", "-/", "1/", "/1", "/2", "-/2", "1/-", "1//2", "1/2/", "/1/2", "1/2/3", "1/2 ", " 1/2", "1 /2", "1/ 2", "1 / 2", "1/2\n", "\n1/2", "1\t/2",
		"1/1", "0/1", "-3/1", "400000000/1", "2/2", "2/4", "-2/4", "6/3", "0/2", "0/400000000", "400000000/2", "400000000/400000000", "1/0", "0/0", "-1/0",
		"1/-2", "-1/-2", "1/-1", "0/-1", "0/-2", "--1/2", "+1/2", "1/+2", "-+1/2", "1-/2", "1/2-", "1-2", "1/2-3", "-0", "-0/1", "-0/2", "00", "01", "01/2", "1/02", "-01/2", "1/00", "00/2",
		"400000001", "-400000001", "400000001/2", "-400000001/2", "1/400000001", "400000001/400000000", "400000000/400000001", "4294967296", "4294967297/2", "1/4294967298",
		"9223372036854775807", "-9223372036854775808", "1/9223372036854775808", "18446744073709551617/2", "1/18446744073709551618", "1/-9223372036854775808",
		"1.5", "0.5", "1,5", "1e3", "0x1", "1_0", "a", "1a", "a1", "a/2", "1/a", "1/2a", "1:2", "1\\2", "1|2", "1x2", "1;2", "1 2", "(1/2)", "[1/2]",
		"1\u20442", "1\u22152", "1\u00f72", "\u00bd", "\u0661/\u0662", "1/\uff12", "\uff11/2", "\u22121/2", "1/2\u00a0", "\ufeff1/2",
		"\xff", "1\xff/2", "1/\xff2", "1/2\xff", "\xff1/2", "1/2\x00", "\x001/2", "1/\xb2", "1\xaf2", "1/\xc0\xb2",
		strings.Repeat("0", 9000) + "1/2", "1/2" + strings.Repeat(" ", 9000), "1/" + strings.Repeat("9", 9000), strings.Repeat("1/", 5000) + "2", strings.Repeat("-", 9000),
	}
	for _, s := range texts {
		if got, ok := impl.ParseRatio(s); got != none || ok {
			t.Errorf("ParseRatio(%q) = %v, %t, want none, false", s, got, ok)
		}
	}
	for _, x := range beyond {
		for _, s := range []string{"%d", "%d/3", "3/%d"} {
			if got, ok := impl.ParseRatio(fmt.Sprintf(s, x)); got != none || ok {
				t.Errorf("ParseRatio(%q) = %v, %t, want none, false", fmt.Sprintf(s, x), got, ok)
			}
		}
	}
	for _, r := range noRatios {
		if got, ok := impl.ParseRatio(fmt.Sprintf("%d/%d", r.Num, r.Den)); got != none || ok {
			t.Errorf("ParseRatio of %d/%d = %v, %t, want none, false", r.Num, r.Den, got, ok)
		}
	}
}

// checkRatioText holds a text against a pattern, and the fraction in lowest terms against the text.
func checkRatioText(t *testing.T, s string) {
	t.Helper()
	want := none
	if ratioText.MatchString(s) {
		if x, ok := new(big.Rat).SetString(s); ok && x.RatString() == s {
			want = inRange(x)
		}
	}
	if got, ok := impl.ParseRatio(s); got != want || ok != (want != none) {
		t.Errorf("ParseRatio(%q) = %v, %t, want %v, %t", s, got, ok, want, want != none)
	}
}

func TestParseRatioShortTexts(t *testing.T) {
	// Every short text of some letters, and every text that one byte makes of another: accepted exactly where some ratio has it.
	wordsOf("/-01246 ", 5, func(s string) { checkRatioText(t, s) })
	texts := []string{"7", "-7", "3/4", "-5/6", "10/21", "-1/100", "400000000", "-400000000/399999999", "399999999/400000000"}
	for _, s := range texts {
		for i := range len(s) + 1 {
			checkRatioText(t, s[:i])
			checkRatioText(t, s[i:])
			checkRatioText(t, s[:i]+s[min(i+1, len(s)):])
			for b := range 256 {
				checkRatioText(t, s[:i]+string([]byte{byte(b)})+s[i:])
				checkRatioText(t, s[:i]+string([]byte{byte(b)})+s[min(i+1, len(s)):])
			}
		}
	}
}

func TestTextsShareNoMemory(t *testing.T) {
	a, whole := spare(matrix(2, 2, 1, 2, 3, 4))
	kept := slices.Clone(whole)
	if impl.FormatMatrix(a) != "2x2[1 2;3 4]" || impl.FormatInts(a.Cells) != "1 2 3 4" || !slices.Equal(whole, kept) {
		t.Error("a text is wrong, or an argument was changed")
	}
	first, _ := impl.ParseMatrix("2x2[1 2;3 4]")
	cells := first.Cells[:cap(first.Cells)]
	for i := range cells {
		cells[i] = -99
	}
	second, ok := impl.ParseMatrix("2x2[1 2;3 4]")
	checkMatrix(t, "ParseMatrix after a change to an earlier result", second, ok, matrix(2, 2, 1, 2, 3, 4))
}
