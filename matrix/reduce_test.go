package matrix_test

import (
	"math/rand"
	"testing"

	"geoprover/api"
	"geoprover/matrix"
	"geoprover/rational"
)

// randomSymmetric returns a symmetric matrix with n rows, often without a diagonal, or of a small rank.
func randomSymmetric(r *rand.Rand, n int) api.Matrix {
	m := randomMatrix(r, n, n)
	plain := r.Intn(2) == 0
	for i := range n {
		for k := range i {
			m.Cells[k*n+i] = m.Cells[i*n+k]
		}
		if !plain && r.Intn(4) > 0 {
			m.Cells[i*n+i] = rational.Of(0)
		}
	}
	if r.Intn(3) > 0 {
		return m
	}
	b := randomMatrix(r, r.Intn(n+1), n)
	for i := range n {
		for k := range n {
			m.Cells[i*n+k] = rational.Of(0)
			for j := range b.Rows {
				m.Cells[i*n+k] = rational.Add(m.Cells[i*n+k], rational.Mul(row(b, j)[i], row(b, j)[k]))
			}
		}
	}
	return m
}

// P9.6
func TestReduce(t *testing.T) {
	for _, x := range []struct {
		m       api.Matrix
		weights string
		forms   api.Matrix
	}{
		{api.Matrix{}, "", api.Matrix{}},
		{read("0"), "", api.Matrix{Cols: 1}},
		{filled(3, 3, "0"), "", api.Matrix{Cols: 3}},
		{read("-5/3"), "-5/3", read("1")},
		{read("0 1; 1 0"), "1/2 -1/2", read("1 1; -1 1")},
		{read("2 1; 1 2"), "2 3/2", read("1 1/2; 0 1")},
		{read("1 1; 1 1"), "1", read("1 1")},
		{read("1 0; 0 -1"), "1 -1", read("1 0; 0 1")},
		{read("0 3; 3 5"), "5 -9/5", read("3/5 1; 1 0")},
		{read("0 0; 0 4"), "4", read("0 1")},
		{read("0 2 3; 2 0 0; 3 0 0"), "1/4 -1/4", read("2 2 3; -2 2 3")},
		{read("0 0 0; 0 0 -2; 0 -2 0"), "-1/4 1/4", read("0 -2 -2; 0 2 -2")},
		{read("0 0 1; 0 0 1; 1 1 0"), "1/2 -1/2", read("1 1 1; -1 -1 1")},
		{read("1 1 1; 1 1 2; 1 2 1"), "1 1/2 -1/2", read("1 1 1; 0 1 1; 0 -1 1")},
		{read("0 1 1; 1 0 1; 1 1 0"), "1/2 -1/2 -2", read("1 1 2; -1 1 0; 0 0 1")},
	} {
		weights, forms, e := matrix.Reduce(x.m)
		expectNumbers(t, "Reduce of "+textOf(x.m), weights, e, numbers(x.weights))
		expect(t, "Reduce of "+textOf(x.m), forms, e, x.forms)
	}
}

// P9.6: the definition, cell by cell.
func TestReduceRandom(t *testing.T) {
	r := newSource()
	for range rounds {
		m := randomSymmetric(r, r.Intn(6))
		weights, forms, e := matrix.Reduce(m)
		if e != api.OK || len(weights) != forms.Rows || forms.Cols != m.Cols || !matrix.Right(forms) {
			t.Fatalf("Reduce of %s returns %s, %v, %d", textOf(m), text(weights), forms, e)
		}
		rest := api.Matrix{Rows: m.Rows, Cols: m.Cols, Cells: append([]api.Rat{}, m.Cells...)}
		for n := 0; n < len(weights); {
			l := squaresOf(rest)
			for _, s := range l {
				expectNumbers(t, "a weight of Reduce of "+textOf(m), weights[n:n+1], e, []api.Rat{s.weight})
				expectNumbers(t, "a form of Reduce of "+textOf(m), row(forms, n), e, s.form)
				without(rest, s)
				n++
			}
			if len(l) == 0 {
				t.Fatalf("Reduce of %s returns more than %d squares", textOf(m), n)
			}
		}
		if !matrix.Equal(rest, filled(m.Rows, m.Cols, "0")) {
			t.Fatalf("Reduce of %s leaves %s", textOf(m), textOf(rest))
		}
	}
}

// squareOf is a weight and a form.
type squareOf struct {
	weight api.Rat
	form   []api.Rat
}

// squaresOf returns the first squares of m by the definition.
func squaresOf(m api.Matrix) []squareOf {
	combination := func(a api.Rat, i int, b api.Rat, k int) []api.Rat {
		l := make([]api.Rat, m.Cols)
		for n := range l {
			l[n] = rational.Add(rational.Mul(a, row(m, i)[n]), rational.Mul(b, row(m, k)[n]))
		}
		return l
	}
	one, none := rational.Of(1), rational.Of(0)
	for i := range m.Rows {
		if a := row(m, i)[i]; rational.Sign(a) != 0 {
			inverse, _ := rational.Div(one, a)
			return []squareOf{{a, combination(inverse, i, none, i)}}
		}
	}
	for i := range m.Rows {
		for k, a := range row(m, i) {
			if rational.Sign(a) != 0 {
				weight, _ := rational.Div(one, rational.Mul(rational.Of(2), a))
				return []squareOf{{weight, combination(one, i, one, k)}, {rational.Neg(weight), combination(one, i, rational.Of(-1), k)}}
			}
		}
	}
	return nil
}

// without subtracts the square from m.
func without(m api.Matrix, s squareOf) {
	for i := range m.Rows {
		for k := range m.Cols {
			cell := &m.Cells[i*m.Cols+k]
			*cell = rational.Sub(*cell, rational.Mul(s.weight, rational.Mul(s.form[i], s.form[k])))
		}
	}
}

// P9.6: a matrix of MaxRows rows.
func TestReduceLarge(t *testing.T) {
	m := filled(api.MaxRows, api.MaxRows, "0")
	for i := range api.MaxRows {
		m.Cells[i*api.MaxRows+api.MaxRows-1-i] = number("1")
	}
	weights, forms, e := matrix.Reduce(m)
	if e != api.OK || len(weights) != api.MaxRows || forms.Rows != api.MaxRows || !matrix.Right(forms) {
		t.Fatalf("Reduce returns %d weights, %d forms, %d", len(weights), forms.Rows, e)
	}
	for n, a := range weights {
		expectNumber(t, "a weight", a, e, rational.Frac(1-2*(n%2), 2))
	}
}

// P9.6
func TestReduceErrors(t *testing.T) {
	for _, m := range []api.Matrix{
		{Rows: 1}, {Cols: 1}, read("1 2"), read("1; 2"), read("1 2; 3 4"), read("0 1; -1 0"), read("1 2 3; 2 1 4; 3 5 1"), filled(2, 3, "0"), filled(3, 2, "0"),
	} {
		if weights, forms, e := matrix.Reduce(m); len(weights) != 0 || !isNone(forms) || e != api.ErrMismatch {
			t.Errorf("Reduce of %s returns %s, %s, %d", textOf(m), text(weights), textOf(forms), e)
		}
	}
	for _, m := range wrongMatrices() {
		if weights, forms, e := matrix.Reduce(m); len(weights) != 0 || !isNone(forms) || e != api.ErrArg {
			t.Errorf("Reduce of %v returns %s, %s, %d", m, text(weights), textOf(forms), e)
		}
	}
}
