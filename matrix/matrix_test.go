package matrix_test

import (
	"math"
	"testing"

	"geoprover/api"
	"geoprover/matrix"
	"geoprover/rational"
)

// P9.1
func TestRight(t *testing.T) {
	for _, m := range []api.Matrix{
		{},
		{Rows: 3},
		{Cols: 3},
		{Rows: api.MaxRows},
		{Cols: api.MaxRows},
		read("0"),
		read("1 -2/3 5; 0 4 12345678901234567890/7"),
		filled(api.MaxRows, api.MaxRows, "-1/2"),
	} {
		if !matrix.Right(m) {
			t.Errorf("%v is not valid", m)
		}
	}
	for _, m := range wrongMatrices() {
		if matrix.Right(m) {
			t.Errorf("%v is valid", m)
		}
	}
}

// P9.1
func TestMake(t *testing.T) {
	for _, m := range []api.Matrix{
		{}, {Rows: 3}, {Cols: 3}, read("1 -2/3 5; 0 4 7"), read("1 2"), read("1; 2"), filled(api.MaxRows, api.MaxRows, "3"),
	} {
		got, e := matrix.Make(m.Rows, m.Cols, m.Cells)
		expect(t, "Make", got, e, m)
	}
}

// P9.1
func TestMakeErrors(t *testing.T) {
	two := numbers("1 2")
	for _, x := range []struct {
		rows, cols int
		cells      []api.Rat
		want       api.Errno
	}{
		{-1, 2, two, api.ErrRange},
		{2, -1, two, api.ErrRange},
		{-1, -2, two, api.ErrRange},
		{-1, 0, nil, api.ErrRange},
		{0, -1, nil, api.ErrRange},
		{api.MaxRows + 1, 0, nil, api.ErrRange},
		{0, api.MaxRows + 1, nil, api.ErrRange},
		{api.MaxRows + 1, 1, filled(api.MaxRows+1, 1, "1").Cells, api.ErrRange},
		{math.MaxInt, math.MinInt, nil, api.ErrRange},
		{math.MaxInt, 2, two, api.ErrRange},
		{1 << 32, 1 << 32, nil, api.ErrRange},
		{-1, 1, wrongNumbers(), api.ErrRange},
		{1, 1, two, api.ErrMismatch},
		{3, 1, two, api.ErrMismatch},
		{0, 2, two, api.ErrMismatch},
		{2, 0, two, api.ErrMismatch},
		{1, 1, nil, api.ErrMismatch},
		{api.MaxRows, api.MaxRows, two, api.ErrMismatch},
		{1, 1, wrongNumbers(), api.ErrMismatch},
		{1, len(wrongNumbers()), wrongNumbers(), api.ErrArg},
	} {
		got, e := matrix.Make(x.rows, x.cols, x.cells)
		if !isNone(got) || e != x.want {
			t.Errorf("Make of %d rows and %d columns returns %v, %d, want %d", x.rows, x.cols, got, e, x.want)
		}
	}
	for _, a := range wrongNumbers() {
		for n := range 4 {
			cells := numbers("0 1 2 3")
			cells[n] = a
			if got, e := matrix.Make(2, 2, cells); !isNone(got) || e != api.ErrArg {
				t.Errorf("Make of %v returns %v, %d", cells, got, e)
			}
		}
	}
}

// P9.1
func TestAt(t *testing.T) {
	m := read("1 -2/3 5; 0 4 7")
	for i := range 2 {
		for k := range 3 {
			got, e := matrix.At(m, i, k)
			expectNumber(t, "At", got, e, row(m, i)[k])
		}
	}
}

// P9.1
func TestAtErrors(t *testing.T) {
	for _, x := range []struct {
		m    api.Matrix
		i, k int
	}{
		{read("1 2 3; 4 5 6"), -1, 0},
		{read("1 2 3; 4 5 6"), 0, -1},
		{read("1 2 3; 4 5 6"), 1, -1},
		{read("1 2 3; 4 5 6"), 2, 0},
		{read("1 2 3; 4 5 6"), 0, 3},
		{read("1 2 3; 4 5 6"), math.MaxInt, math.MaxInt},
		{read("1 2 3; 4 5 6"), math.MinInt, math.MinInt},
		{api.Matrix{}, 0, 0},
		{api.Matrix{Rows: 2}, 0, 0},
		{api.Matrix{Cols: 2}, 0, 0},
	} {
		if got, e := matrix.At(x.m, x.i, x.k); !isNoNumber(got) || e != api.ErrRange {
			t.Errorf("At of %s, %d, %d returns %v, %d", textOf(x.m), x.i, x.k, got, e)
		}
	}
	for _, m := range wrongMatrices() {
		for _, k := range []int{0, -1, 5, math.MaxInt} {
			if got, e := matrix.At(m, k, k); !isNoNumber(got) || e != api.ErrArg {
				t.Errorf("At of %v, %d, %d returns %v, %d", m, k, k, got, e)
			}
		}
	}
}

// P9.1
func TestEqual(t *testing.T) {
	l := []api.Matrix{
		{}, {Rows: 1}, {Rows: 2}, {Cols: 1}, {Cols: 2},
		read("1"), read("-1"), read("1/2"), read("0"),
		read("1 2"), read("1; 2"), read("1 2; 3 4"), read("1 2; 3 5"), read("0 2; 3 4"), read("1 2 3 4"), read("1 2 3; 4 5 6"), read("1 2; 3 4; 5 6"),
	}
	for i, a := range l {
		for k, b := range l {
			if matrix.Equal(a, b) != (i == k) {
				t.Errorf("Equal of %s and %s returns %t", textOf(a), textOf(b), i != k)
			}
		}
		copied := api.Matrix{Rows: a.Rows, Cols: a.Cols, Cells: append([]api.Rat{}, a.Cells...)}
		if !matrix.Equal(a, copied) {
			t.Errorf("%s is not equal to its copy", textOf(a))
		}
	}
}

// P9.2
func TestTranspose(t *testing.T) {
	for _, x := range []struct{ m, want api.Matrix }{
		{api.Matrix{}, api.Matrix{}},
		{api.Matrix{Rows: 3}, api.Matrix{Cols: 3}},
		{api.Matrix{Cols: api.MaxRows}, api.Matrix{Rows: api.MaxRows}},
		{read("5/3"), read("5/3")},
		{read("1 2 3"), read("1; 2; 3")},
		{read("1 2 3; 4 5 6"), read("1 4; 2 5; 3 6")},
		{read("1 2; 3 4"), read("1 3; 2 4")},
		{filled(api.MaxRows, 2, "7"), filled(2, api.MaxRows, "7")},
	} {
		got, e := matrix.Transpose(x.m)
		expect(t, "Transpose of "+textOf(x.m), got, e, x.want)
		got, e = matrix.Transpose(x.want)
		expect(t, "Transpose of "+textOf(x.want), got, e, x.m)
	}
	for _, m := range wrongMatrices() {
		if got, e := matrix.Transpose(m); !isNone(got) || e != api.ErrArg {
			t.Errorf("Transpose of %v returns %v, %d", m, got, e)
		}
	}
}

// P9.1: nothing is promised for matrices that are not valid (R2), but Equal returns all the same.
func TestEqualInvalid(t *testing.T) {
	for _, a := range wrongMatrices() {
		for _, b := range append(wrongMatrices(), read("1"), filled(2, 2, "0")) {
			matrix.Equal(a, b)
			matrix.Equal(b, a)
		}
	}
	if matrix.Equal(api.Matrix{}, api.Matrix{Cells: []api.Rat{rational.Of(1)}}) {
		t.Error("matrices with different cells are equal")
	}
}
