package matrix_test

import (
	"testing"

	"geoprover/api"
	"geoprover/matrix"
	"geoprover/rational"
)

// P9.2
func TestMul(t *testing.T) {
	for _, x := range []struct{ a, b, want api.Matrix }{
		{api.Matrix{}, api.Matrix{}, api.Matrix{}},
		{api.Matrix{Rows: 2}, api.Matrix{Cols: 3}, filled(2, 3, "0")},
		{api.Matrix{Cols: 2}, read("1 2 3; 4 5 6"), api.Matrix{Cols: 3}},
		{read("1 2 3; 4 5 6"), api.Matrix{Rows: 3}, api.Matrix{Rows: 2}},
		{read("2/3"), read("-3/2"), read("-1")},
		{read("1 2 3"), read("4; 5; 6"), read("32")},
		{read("4; 5"), read("1 2 3"), read("4 8 12; 5 10 15")},
		{read("1 2; 3 4"), read("0 1; 1 0"), read("2 1; 4 3")},
		{read("0 1; 1 0"), read("1 2; 3 4"), read("3 4; 1 2")},
		{read("1/2 -1; 0 3"), read("4 1/3; 2 1/6"), read("0 0; 6 1/2")},
		{filled(api.MaxRows, api.MaxRows, "1/2"), filled(api.MaxRows, api.MaxRows, "3"), filled(api.MaxRows, api.MaxRows, "60")},
		{filled(api.MaxRows, 1, "2"), filled(1, api.MaxRows, "3"), filled(api.MaxRows, api.MaxRows, "6")},
		{api.Matrix{Rows: api.MaxRows}, api.Matrix{Cols: api.MaxRows}, filled(api.MaxRows, api.MaxRows, "0")},
	} {
		got, e := matrix.Mul(x.a, x.b)
		expect(t, "Mul of "+textOf(x.a)+" and "+textOf(x.b), got, e, x.want)
	}
}

// P9.2
func TestMulRandom(t *testing.T) {
	r := newSource()
	for range rounds {
		a := randomMatrix(r, r.Intn(5), r.Intn(5))
		b := randomMatrix(r, a.Cols, r.Intn(5))
		want := filled(a.Rows, b.Cols, "0")
		for i := range a.Rows {
			for k := range b.Cols {
				for n := range a.Cols {
					cell := &want.Cells[i*b.Cols+k]
					*cell = rational.Add(*cell, rational.Mul(row(a, i)[n], row(b, n)[k]))
				}
			}
		}
		got, e := matrix.Mul(a, b)
		expect(t, "Mul of "+textOf(a)+" and "+textOf(b), got, e, want)
	}
}

// P9.2
func TestMulErrors(t *testing.T) {
	for _, x := range [][2]api.Matrix{
		{read("1 2"), read("3 4")},
		{read("1; 2"), read("3; 4")},
		{read("1 2 3; 4 5 6"), read("1 2 3; 4 5 6")},
		{{}, read("1")},
		{read("1"), {}},
		{{Rows: 2}, {Rows: 2}},
		{{Cols: 2}, {Cols: 2}},
	} {
		if got, e := matrix.Mul(x[0], x[1]); !isNone(got) || e != api.ErrMismatch {
			t.Errorf("Mul of %s and %s returns %v, %d", textOf(x[0]), textOf(x[1]), got, e)
		}
	}
	for _, wrong := range wrongMatrices() {
		for _, m := range []api.Matrix{{}, read("1"), read("1 2 3; 4 5 6"), wrong} {
			if got, e := matrix.Mul(wrong, m); !isNone(got) || e != api.ErrArg {
				t.Errorf("Mul of %v and %v returns %v, %d", wrong, m, got, e)
			}
			if got, e := matrix.Mul(m, wrong); !isNone(got) || e != api.ErrArg {
				t.Errorf("Mul of %v and %v returns %v, %d", m, wrong, got, e)
			}
		}
	}
}

// P9.5
func TestQuadratic(t *testing.T) {
	for _, x := range []struct {
		m    api.Matrix
		x    string
		want string
	}{
		{api.Matrix{}, "", "0"},
		{read("3"), "-2/3", "4/3"},
		{read("1 2; 3 4"), "1 0", "1"},
		{read("1 2; 3 4"), "0 1", "4"},
		{read("1 2; 3 4"), "1 -1", "0"},
		{read("1 2; 3 4"), "5 7", "396"},
		{read("0 1; 0 0"), "2 3", "6"},
		{read("0 0; 1 0"), "2 3", "6"},
		{filled(3, 3, "0"), "1 2 3", "0"},
		{filled(api.MaxRows, api.MaxRows, "1/4"), text(filled(1, api.MaxRows, "-1/10").Cells), "4"},
	} {
		got, e := matrix.Quadratic(x.m, numbers(x.x))
		expectNumber(t, "Quadratic of "+textOf(x.m), got, e, number(x.want))
	}
}

// P9.5
func TestQuadraticRandom(t *testing.T) {
	r := newSource()
	for range rounds {
		n := r.Intn(6)
		m, x := randomMatrix(r, n, n), randomNumbers(r, n)
		want := rational.Of(0)
		for i := range n {
			for k := range n {
				want = rational.Add(want, rational.Mul(x[i], rational.Mul(row(m, i)[k], x[k])))
			}
		}
		got, e := matrix.Quadratic(m, x)
		expectNumber(t, "Quadratic of "+textOf(m)+" and "+text(x), got, e, want)
	}
}

// P9.5
func TestQuadraticErrors(t *testing.T) {
	for _, x := range []struct {
		m api.Matrix
		x string
	}{
		{read("1 2 3; 4 5 6"), "1 2"},
		{read("1 2 3; 4 5 6"), "1 2 3"},
		{read("1 2; 3 4"), "1"},
		{read("1 2; 3 4"), "1 2 3"},
		{read("1 2; 3 4"), ""},
		{api.Matrix{}, "1"},
		{api.Matrix{Rows: 2}, "1 2"},
		{api.Matrix{Rows: 2}, ""},
		{api.Matrix{Cols: 2}, "1 2"},
		{api.Matrix{Cols: 2}, ""},
	} {
		if got, e := matrix.Quadratic(x.m, numbers(x.x)); !isNoNumber(got) || e != api.ErrMismatch {
			t.Errorf("Quadratic of %s and %s returns %v, %d", textOf(x.m), x.x, got, e)
		}
	}
	for _, m := range wrongMatrices() {
		for _, x := range []string{"", "1", "1 2"} {
			if got, e := matrix.Quadratic(m, numbers(x)); !isNoNumber(got) || e != api.ErrArg {
				t.Errorf("Quadratic of %v and %s returns %v, %d", m, x, got, e)
			}
		}
	}
	for _, a := range wrongNumbers() {
		for _, m := range []api.Matrix{{}, read("1 2; 3 4"), read("0 0; 0 0"), read("1 2")} {
			if got, e := matrix.Quadratic(m, []api.Rat{number("1"), a}); !isNoNumber(got) || e != api.ErrArg {
				t.Errorf("Quadratic of %s and 1 and %v returns %v, %d", textOf(m), a, got, e)
			}
		}
	}
}
