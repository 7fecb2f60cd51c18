package matrix

import (
	"slices"

	"geoprover/api"
	"geoprover/fresh"
	"geoprover/rational"
)

// Reduce writes a symmetric matrix as a sum of weights times the matrices of all f[i] f[k], where f is a row of forms. It returns ErrArg if m is not valid, and then ErrMismatch unless it is square and symmetric.
func Reduce(m api.Matrix) (weights []api.Rat, forms api.Matrix, e api.Errno) {
	switch {
	case !Right(m):
		return nil, api.Matrix{}, api.ErrArg
	case !isSymmetric(m):
		return nil, api.Matrix{}, api.ErrMismatch
	}
	rest := rowsOf(m)
	var squares []square
	for next := firstSquares(rest); len(next) > 0; next = firstSquares(rest) {
		for _, s := range next {
			s.subtractFrom(rest)
		}
		squares = append(squares, next...)
	}
	rows := make([][]api.Rat, len(squares))
	for n, s := range squares {
		weights = append(weights, fresh.Rat(s.weight))
		rows[n] = s.form
	}
	return weights, ofRows(m.Cols, rows), api.OK
}

// isSymmetric reports whether m is square and symmetric: its rows are its columns.
func isSymmetric(m api.Matrix) bool {
	return slices.EqualFunc(rowsOf(m), columnsOf(m), func(row, column []api.Rat) bool {
		return slices.EqualFunc(row, column, rational.Equal)
	})
}

// square is a weight and the row f of the matrix of all f[i] f[k].
type square struct {
	weight api.Rat
	form   []api.Rat
}

// subtractFrom subtracts the weight times the matrix of the form from the rows of rest.
func (s square) subtractFrom(rest [][]api.Rat) {
	for i, row := range rest {
		subtract(row, s.form, rational.Mul(s.weight, s.form[i]))
	}
}

// firstSquares returns the squares with which the sum for the rows of a symmetric matrix begins: one for the first cell of the diagonal that is not 0, otherwise two for the first cell that is not 0, and none if there is no such cell.
func firstSquares(rest [][]api.Rat) []square {
	for i, row := range rest {
		if a := row[i]; rational.Sign(a) != 0 {
			form := slices.Clone(row)
			divide(form, a)
			return []square{{a, form}}
		}
	}
	for _, row := range rest {
		if k := slices.IndexFunc(row, isNotZero); k >= 0 {
			sum, difference := slices.Clone(row), slices.Clone(row)
			subtract(sum, rest[k], rational.Of(-1))
			subtract(difference, rest[k], rational.Of(1))
			half, _ := rational.Div(rational.Frac(1, 2), row[k])
			return []square{{half, sum}, {rational.Neg(half), difference}}
		}
	}
	return nil
}

// isNotZero reports whether a is not 0.
func isNotZero(a api.Rat) bool { return rational.Sign(a) != 0 }
