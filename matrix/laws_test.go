package matrix_test

import (
	"testing"

	"geoprover/api"
	"geoprover/matrix"
	"geoprover/rational"
)

// P9.7
func TestDeterminants(t *testing.T) {
	r := newSource()
	for range rounds {
		n := r.Intn(8)
		a, b := randomMatrix(r, n, n), randomMatrix(r, n, n)
		product, _ := matrix.Mul(a, b)
		x, _ := matrix.Det(a)
		y, _ := matrix.Det(b)
		z, e := matrix.Det(product)
		expectNumber(t, "Det of a product", z, e, rational.Mul(x, y))
		rank, _ := matrix.Rank(a)
		if (rational.Sign(x) != 0) != (rank == n) {
			t.Fatalf("%s has the rank %d and the determinant %s", textOf(a), rank, rational.Text(x))
		}
	}
}

// P9.7
func TestRanks(t *testing.T) {
	r := newSource()
	for range rounds {
		m := randomMatrix(r, r.Intn(9), r.Intn(9))
		rank, _ := matrix.Rank(m)
		transposed, _ := matrix.Transpose(m)
		other, _ := matrix.Rank(transposed)
		basis, _ := matrix.Kernel(m)
		if rank != other || rank+len(basis) != m.Cols {
			t.Fatalf("%s has the rank %d, its transpose %d, and the kernel %d elements", textOf(m), rank, other, len(basis))
		}
	}
}

// P9.7
func TestQuadraticReduce(t *testing.T) {
	r := newSource()
	for range rounds {
		m := randomSymmetric(r, r.Intn(7))
		weights, forms, _ := matrix.Reduce(m)
		if rank, _ := matrix.Rank(m); rank != len(weights) {
			t.Fatalf("%s has the rank %d and %d weights", textOf(m), rank, len(weights))
		}
		x := randomNumbers(r, m.Rows)
		sum := rational.Of(0)
		for n, y := range times(forms, x) {
			sum = rational.Add(sum, rational.Mul(weights[n], rational.Mul(y, y)))
		}
		value, e := matrix.Quadratic(m, x)
		expectNumber(t, "Quadratic of "+textOf(m), value, e, sum)
	}
}

// P9.7: Quadratic is negative somewhere exactly if a weight is: where this form is 1 and the others are 0.
func TestNegativeWeights(t *testing.T) {
	r := newSource()
	negative, positive := 0, 0
	for range rounds {
		m := randomSymmetric(r, r.Intn(6))
		weights, forms, _ := matrix.Reduce(m)
		below := false
		for n, a := range weights {
			if rational.Sign(a) >= 0 {
				continue
			}
			below = true
			b := filled(1, len(weights), "0").Cells
			b[n] = rational.Of(1)
			x, e := matrix.Solve(forms, b)
			value, _ := matrix.Quadratic(m, x)
			expectNumber(t, "Quadratic of "+textOf(m), value, e, a)
		}
		if below {
			negative++
			continue
		}
		positive++
		for range 20 {
			x := randomNumbers(r, m.Rows)
			if value, e := matrix.Quadratic(m, x); e != api.OK || rational.Sign(value) < 0 {
				t.Fatalf("Quadratic of %s and %s returns %s, %d", textOf(m), text(x), rational.Text(value), e)
			}
		}
	}
	if min(negative, positive) < rounds/10 {
		t.Errorf("%d matrices have negative weights, %d have none", negative, positive)
	}
}
