package matrix

import (
	"geoprover/api"
	"geoprover/rational"
)

// Mul returns the product of a and b. It returns ErrArg if one of them is not valid, and then ErrMismatch unless a has as many columns as b has rows.
func Mul(a, b api.Matrix) (api.Matrix, api.Errno) {
	switch {
	case !Right(a) || !Right(b):
		return api.Matrix{}, api.ErrArg
	case a.Cols != b.Rows:
		return api.Matrix{}, api.ErrMismatch
	}
	columns := columnsOf(b)
	rows := rowsOf(a)
	for i, row := range rows {
		rows[i] = dots(columns, row)
	}
	return ofRows(b.Cols, rows), api.OK
}

// Quadratic returns the sum of all x[i] m[i, k] x[k]. It returns ErrArg if m or a number of x is not valid, and then ErrMismatch unless m is square and has as many rows as x has numbers.
func Quadratic(m api.Matrix, x []api.Rat) (api.Rat, api.Errno) {
	switch {
	case !Right(m) || !areRight(x):
		return api.Rat{}, api.ErrArg
	case m.Rows != m.Cols || m.Rows != len(x):
		return api.Rat{}, api.ErrMismatch
	}
	return dot(x, dots(rowsOf(m), x)), api.OK
}

// dots returns the sums of the products of the numbers of each row and those of x.
func dots(rows [][]api.Rat, x []api.Rat) []api.Rat {
	sums := make([]api.Rat, len(rows))
	for i, row := range rows {
		sums[i] = dot(row, x)
	}
	return sums
}

// dot returns the sum of the products of the numbers of a and those of b, which are as many.
func dot(a, b []api.Rat) api.Rat {
	sum := rational.Of(0)
	for n := range a {
		if rational.Sign(a[n]) != 0 && rational.Sign(b[n]) != 0 {
			sum = rational.Add(sum, rational.Mul(a[n], b[n]))
		}
	}
	return sum
}
