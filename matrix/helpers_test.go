package matrix_test

import (
	"math"
	"math/rand"
	"slices"
	"strings"
	"testing"

	"geoprover/api"
	"geoprover/matrix"
	"geoprover/rational"
)

// rounds is the number of pseudo-random cases of a test.
const rounds = 400

// newSource returns a generator with a fixed seed, so that each run tests the same matrices.
func newSource() *rand.Rand { return rand.New(rand.NewSource(9)) }

// number returns the number with the text s.
func number(s string) api.Rat {
	a, e := rational.Read(s)
	if e != api.OK {
		panic(s)
	}
	return a
}

// numbers returns the numbers with the texts in s, between which stand spaces.
func numbers(s string) []api.Rat {
	var l []api.Rat
	for _, word := range strings.Fields(s) {
		l = append(l, number(word))
	}
	return l
}

// read returns the matrix with the rows in s, between which stand semicolons.
func read(s string) api.Matrix {
	var m api.Matrix
	for _, row := range strings.Split(s, ";") {
		l := numbers(row)
		m.Rows, m.Cols = m.Rows+1, len(l)
		m.Cells = append(m.Cells, l...)
	}
	return m
}

// filled returns a matrix of this size with the same number in all cells.
func filled(rows, cols int, cell string) api.Matrix {
	m := api.Matrix{Rows: rows, Cols: cols}
	for range rows * cols {
		m.Cells = append(m.Cells, number(cell))
	}
	return m
}

// row returns the row i of m.
func row(m api.Matrix, i int) []api.Rat {
	return m.Cells[i*m.Cols : (i+1)*m.Cols]
}

// text returns the numbers of l as text.
func text(l []api.Rat) string {
	var words []string
	for _, a := range l {
		words = append(words, rational.Text(a))
	}
	return strings.Join(words, " ")
}

// textOf returns m as text.
func textOf(m api.Matrix) string {
	if !matrix.Right(m) {
		return "no matrix"
	}
	var rows []string
	for i := range m.Rows {
		rows = append(rows, text(row(m, i)))
	}
	return "(" + strings.Join(rows, "; ") + ")"
}

// isSame reports whether the representations are equal.
func isSame(a, b api.Rat) bool {
	return a.Num.Neg == b.Num.Neg && slices.Equal(a.Num.Abs, b.Num.Abs) && slices.Equal(a.Den, b.Den)
}

// expect fails unless got is the matrix want, and there is no error.
func expect(t *testing.T, what string, got api.Matrix, e api.Errno, want api.Matrix) {
	t.Helper()
	if e != api.OK || got.Rows != want.Rows || got.Cols != want.Cols || !slices.EqualFunc(got.Cells, want.Cells, isSame) {
		t.Fatalf("%s returns %v, %d, want %s", what, got, e, textOf(want))
	}
}

// expectNumbers fails unless got is the list want, and there is no error.
func expectNumbers(t *testing.T, what string, got []api.Rat, e api.Errno, want []api.Rat) {
	t.Helper()
	if e != api.OK || !slices.EqualFunc(got, want, isSame) {
		t.Fatalf("%s returns %s, %d, want %s", what, text(got), e, text(want))
	}
}

// expectNumber fails unless got is the number want, and there is no error.
func expectNumber(t *testing.T, what string, got api.Rat, e api.Errno, want api.Rat) {
	t.Helper()
	expectNumbers(t, what, []api.Rat{got}, e, []api.Rat{want})
}

// isNone reports whether m is the zero value.
func isNone(m api.Matrix) bool { return m.Rows == 0 && m.Cols == 0 && len(m.Cells) == 0 }

// isNoNumber reports whether a is the zero value.
func isNoNumber(a api.Rat) bool { return isSame(a, api.Rat{}) }

// wrongNumbers returns numbers that are not valid.
func wrongNumbers() []api.Rat {
	one := api.Nat{1}
	return []api.Rat{
		{},
		{Num: api.Int{Abs: one}},
		{Num: api.Int{Neg: true}, Den: one},
		{Num: api.Int{Abs: api.Nat{2}}, Den: api.Nat{4}},
		{Num: api.Int{Abs: one}, Den: api.Nat{3, 0}},
		{Num: api.Int{Abs: api.Nat{1, 0}}, Den: one},
	}
}

// wrongMatrices returns matrices that are not valid; some have no more rows and columns than a valid one.
func wrongMatrices() []api.Matrix {
	l := []api.Matrix{
		{Rows: 1, Cols: 1},
		{Rows: -1},
		{Cols: -1},
		{Rows: -1, Cols: -1, Cells: numbers("1")},
		{Cells: numbers("1")},
		{Rows: 2, Cols: 2, Cells: numbers("1 2 3")},
		{Rows: 2, Cols: 2, Cells: numbers("1 2 3 4 5")},
		{Rows: 0, Cols: 3, Cells: numbers("1 2 3")},
		{Rows: math.MinInt, Cols: 2},
		{Rows: math.MaxInt, Cols: math.MaxInt, Cells: numbers("1")},
		{Rows: 1 << 32, Cols: 1 << 32},
		{Rows: api.MaxRows + 1},
		{Cols: api.MaxRows + 1},
		filled(api.MaxRows+1, 1, "1"),
		filled(1, api.MaxRows+1, "1"),
	}
	for _, a := range wrongNumbers() {
		l = append(l, api.Matrix{Rows: 1, Cols: 1, Cells: []api.Rat{a}}, api.Matrix{Rows: 2, Cols: 2, Cells: append(numbers("0 0 0"), a)})
	}
	return l
}

// randomMatrix returns a matrix of this size, which often has linearly dependent rows and many cells that are 0.
func randomMatrix(r *rand.Rand, rows, cols int) api.Matrix {
	m := api.Matrix{Rows: rows, Cols: cols}
	zeros := r.Intn(4)
	for i := range rows {
		for range cols {
			m.Cells = append(m.Cells, randomNumber(r, zeros))
		}
		if i > 0 && r.Intn(4) == 0 { // a multiple of another row, and sometimes the same row
			other, factor := row(m, r.Intn(i)), randomNumber(r, 0)
			for k := range cols {
				m.Cells[i*cols+k] = rational.Mul(other[k], factor)
			}
		}
	}
	return m
}

// randomNumbers returns a list of n numbers.
func randomNumbers(r *rand.Rand, n int) []api.Rat {
	return randomMatrix(r, 1, n).Cells
}

// randomNumber returns a number, 0 with a probability that grows with zeros.
func randomNumber(r *rand.Rand, zeros int) api.Rat {
	switch {
	case r.Intn(5) < zeros:
		return rational.Of(0)
	case r.Intn(8) == 0:
		return rational.Frac(r.Int()-r.Int(), 1+r.Int())
	case r.Intn(3) == 0:
		return rational.Frac(r.Intn(13)-6, 1+r.Intn(4))
	}
	return rational.Of(r.Intn(5) - 2)
}

// minor returns the determinant of the cells of m in these rows and columns, which are as many, by expansion along the first row.
func minor(m api.Matrix, rows, cols []int) api.Rat {
	if len(rows) == 0 {
		return rational.Of(1)
	}
	sum := rational.Of(0)
	for n, k := range cols {
		others := slices.Concat(cols[:n], cols[n+1:])
		product := rational.Mul(m.Cells[rows[0]*m.Cols+k], minor(m, rows[1:], others))
		if n%2 == 1 {
			product = rational.Neg(product)
		}
		sum = rational.Add(sum, product)
	}
	return sum
}

// subsets returns all lists of numbers from 0 to n - 1 in ascending order.
func subsets(n int) [][]int {
	l := [][]int{{}}
	for k := range n {
		for _, s := range slices.Clone(l) {
			l = append(l, append(slices.Clone(s), k))
		}
	}
	return l
}

// rankOf returns the greatest number of rows of a minor that is not 0, among the first cols columns of m.
func rankOf(m api.Matrix, cols int) int {
	rank := 0
	for _, rows := range subsets(m.Rows) {
		for _, columns := range subsets(cols) {
			if len(rows) == len(columns) && len(rows) > rank && rational.Sign(minor(m, rows, columns)) != 0 {
				rank = len(rows)
			}
		}
	}
	return rank
}

// pivotsOf returns the columns of m that are not linear combinations of the columns before them.
func pivotsOf(m api.Matrix) []int {
	var pivots []int
	for k := range m.Cols {
		if rankOf(m, k+1) > rankOf(m, k) {
			pivots = append(pivots, k)
		}
	}
	return pivots
}

// times returns the product of m and the column x by the definition.
func times(m api.Matrix, x []api.Rat) []api.Rat {
	l := make([]api.Rat, m.Rows)
	for i := range l {
		l[i] = rational.Of(0)
		for k := range m.Cols {
			l[i] = rational.Add(l[i], rational.Mul(m.Cells[i*m.Cols+k], x[k]))
		}
	}
	return l
}
