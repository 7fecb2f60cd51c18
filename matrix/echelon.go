package matrix

import (
	"slices"

	"geoprover/api"
	"geoprover/fresh"
	"geoprover/rational"
)

// Det returns the determinant of m. It returns ErrArg if m is not valid, and then ErrMismatch unless it is square.
func Det(m api.Matrix) (api.Rat, api.Errno) {
	switch {
	case !Right(m):
		return api.Rat{}, api.ErrArg
	case m.Rows != m.Cols:
		return api.Rat{}, api.ErrMismatch
	}
	pivots, factor := descend(rowsOf(m), m.Cols)
	if len(pivots) < m.Rows {
		return rational.Of(0), api.OK
	}
	return factor, api.OK
}

// Rank returns the number of pivots of m. It returns ErrArg if m is not valid.
func Rank(m api.Matrix) (int, api.Errno) {
	if !Right(m) {
		return 0, api.ErrArg
	}
	pivots, _ := descend(rowsOf(m), m.Cols)
	return len(pivots), api.OK
}

// Solve returns the solution x of m x = b in which all unknowns of columns without a pivot are 0. It returns the first of these errors: ErrArg if m or a number of b is not valid; ErrMismatch unless b has as many numbers as m has rows; ErrNone if there is no solution.
func Solve(m api.Matrix, b []api.Rat) ([]api.Rat, api.Errno) {
	switch {
	case !Right(m) || !areRight(b):
		return nil, api.ErrArg
	case len(b) != m.Rows:
		return nil, api.ErrMismatch
	}
	rows := rowsOf(m)
	for i := range m.Rows {
		rows[i] = append(rows[i], b[i])
	}
	pivots := echelon(rows, m.Cols)
	for _, row := range rows[len(pivots):] {
		if rational.Sign(row[m.Cols]) != 0 {
			return nil, api.ErrNone
		}
	}
	x := zeros(m.Cols)
	for n, k := range pivots {
		x[k] = fresh.Rat(rows[n][m.Cols])
	}
	return x, api.OK
}

// Kernel returns a basis of the solutions of m x = 0: for each column without a pivot the solution in which its unknown is 1, and those of the other columns without a pivot are 0. It returns ErrArg if m is not valid.
func Kernel(m api.Matrix) ([][]api.Rat, api.Errno) {
	if !Right(m) {
		return nil, api.ErrArg
	}
	rows := rowsOf(m)
	pivots := echelon(rows, m.Cols)
	var basis [][]api.Rat
	for free := range m.Cols {
		if slices.Contains(pivots, free) {
			continue
		}
		x := zeros(m.Cols)
		x[free] = rational.Of(1)
		for n, k := range pivots {
			x[k] = rational.Neg(rows[n][free])
		}
		basis = append(basis, x)
	}
	return basis, api.OK
}

// echelon brings the rows into the reduced echelon form for their first cols columns, and returns the columns with a pivot: the number n of them is that of the row n.
func echelon(rows [][]api.Rat, cols int) []int {
	pivots, _ := descend(rows, cols)
	for n, k := range slices.Backward(pivots) {
		for _, row := range rows[:n] {
			subtract(row, rows[n], row[k])
		}
	}
	return pivots
}

// descend does what echelon does, but subtracts the rows of pivots only from those below them. It also returns the number by which this divides the determinant.
func descend(rows [][]api.Rat, cols int) (pivots []int, factor api.Rat) {
	factor = rational.Of(1)
	for k := range cols {
		n := len(pivots)
		i := slices.IndexFunc(rows[n:], func(row []api.Rat) bool { return rational.Sign(row[k]) != 0 })
		if i < 0 {
			continue
		}
		if i > 0 {
			rows[n], rows[n+i] = rows[n+i], rows[n]
			factor = rational.Neg(factor)
		}
		factor = rational.Mul(factor, rows[n][k])
		divide(rows[n], rows[n][k])
		for _, row := range rows[n+1:] {
			subtract(row, rows[n], row[k])
		}
		pivots = append(pivots, k)
	}
	return pivots, factor
}

// divide divides the row by the number a other than 0.
func divide(row []api.Rat, a api.Rat) {
	for k := range row {
		row[k], _ = rational.Div(row[k], a)
	}
}

// subtract subtracts the product of the other row and a from the row.
func subtract(row, other []api.Rat, a api.Rat) {
	if rational.Sign(a) == 0 {
		return
	}
	for k := range row {
		if rational.Sign(other[k]) != 0 {
			row[k] = rational.Sub(row[k], rational.Mul(a, other[k]))
		}
	}
}

// zeros returns n times the number 0.
func zeros(n int) []api.Rat {
	l := make([]api.Rat, n)
	for i := range n {
		l[i] = rational.Of(0)
	}
	return l
}
