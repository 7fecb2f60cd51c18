package matrix_test

import (
	"slices"
	"testing"

	"geoprover/api"
	"geoprover/matrix"
	"geoprover/rational"
)

// hilbert returns the matrix of the cells 1 / (i + k + 1).
func hilbert(n int) api.Matrix {
	m := filled(n, n, "0")
	for i := range n {
		for k := range n {
			m.Cells[i*n+k] = rational.Frac(1, i+k+1)
		}
	}
	return m
}

// P9.3
func TestDet(t *testing.T) {
	for _, x := range []struct {
		m    api.Matrix
		want string
	}{
		{api.Matrix{}, "1"},
		{read("0"), "0"},
		{read("-5/3"), "-5/3"},
		{read("0 1; 1 0"), "-1"},
		{read("1 2; 3 4"), "-2"},
		{read("1 2; 2 4"), "0"},
		{read("0 0 1; 0 1 0; 1 0 0"), "-1"},
		{read("0 1 0; 0 0 1; 1 0 0"), "1"},
		{read("0 2 1; 0 3 4; 5 6 7"), "25"},
		{read("1/2 1/3; 1/4 1/5"), "1/60"},
		{read("1 2 3; 4 5 6; 7 8 9"), "0"},
		{read("1 2 3; 0 0 4; 0 0 5"), "0"},
		{hilbert(4), "1/6048000"},
		{filled(api.MaxRows, api.MaxRows, "1"), "0"},
	} {
		got, e := matrix.Det(x.m)
		expectNumber(t, "Det of "+textOf(x.m), got, e, number(x.want))
	}
}

// P9.3: the matrix of MaxRows rows with 2 in the diagonal and 1 in all other cells.
func TestDetLarge(t *testing.T) {
	m := filled(api.MaxRows, api.MaxRows, "1")
	for i := range api.MaxRows {
		m.Cells[i*api.MaxRows+i] = number("2")
	}
	got, e := matrix.Det(m)
	expectNumber(t, "Det", got, e, number("41"))
	rank, e := matrix.Rank(m)
	expectNumber(t, "Rank", rational.Of(rank), e, number("40"))
}

// P9.3
func TestRank(t *testing.T) {
	for _, x := range []struct {
		m    api.Matrix
		want int
	}{
		{api.Matrix{}, 0},
		{api.Matrix{Rows: 3}, 0},
		{api.Matrix{Cols: 3}, 0},
		{read("0"), 0},
		{read("1/2"), 1},
		{filled(3, 4, "0"), 0},
		{filled(3, 4, "5"), 1},
		{read("0 0 1"), 1},
		{read("0; 0; 1"), 1},
		{read("1 2; 2 4"), 1},
		{read("1 2; 2 5"), 2},
		{read("1 2 3; 4 5 6; 7 8 9"), 2},
		{read("0 1 2; 0 2 4; 0 0 1"), 2},
		{read("0 0 1; 0 1 0; 1 0 0"), 3},
		{read("1 2 3 4; 2 4 6 9"), 2},
		{filled(api.MaxRows, api.MaxRows, "1/3"), 1},
	} {
		if got, e := matrix.Rank(x.m); got != x.want || e != api.OK {
			t.Errorf("Rank of %s returns %d, %d, want %d", textOf(x.m), got, e, x.want)
		}
	}
}

// P9.3: against the expansion along the first row, and the minors.
func TestDetRankRandom(t *testing.T) {
	r := newSource()
	ranks := map[int]int{}
	for range rounds {
		n := r.Intn(5)
		m := randomMatrix(r, n, n)
		all := subsets(n)
		got, e := matrix.Det(m)
		expectNumber(t, "Det of "+textOf(m), got, e, minor(m, all[len(all)-1], all[len(all)-1]))
		m = randomMatrix(r, r.Intn(5), r.Intn(5))
		rank, e := matrix.Rank(m)
		if rank != rankOf(m, m.Cols) || e != api.OK {
			t.Fatalf("Rank of %s returns %d, %d", textOf(m), rank, e)
		}
		ranks[rank]++
	}
	if len(ranks) != 5 {
		t.Errorf("there are only the ranks %v", ranks)
	}
}

// P9.3
func TestDetRankErrors(t *testing.T) {
	for _, m := range []api.Matrix{{Rows: 1}, {Cols: 1}, read("1 2"), read("1; 2"), filled(3, 2, "0"), filled(api.MaxRows, 1, "1")} {
		if got, e := matrix.Det(m); !isNoNumber(got) || e != api.ErrMismatch {
			t.Errorf("Det of %s returns %v, %d", textOf(m), got, e)
		}
	}
	for _, m := range wrongMatrices() {
		if got, e := matrix.Det(m); !isNoNumber(got) || e != api.ErrArg {
			t.Errorf("Det of %v returns %v, %d", m, got, e)
		}
		if got, e := matrix.Rank(m); got != 0 || e != api.ErrArg {
			t.Errorf("Rank of %v returns %d, %d", m, got, e)
		}
	}
}

// P9.4
func TestSolve(t *testing.T) {
	for _, x := range []struct {
		m       api.Matrix
		b, want string
	}{
		{api.Matrix{}, "", ""},
		{api.Matrix{Cols: 3}, "", "0 0 0"},
		{api.Matrix{Rows: 2}, "0 0", ""},
		{read("1 1; 2 2"), "1 2", "1 0"},
		{read("0 1; 1 0"), "3 4", "4 3"},
		{read("2 1; 1 3"), "3 5", "4/5 7/5"},
		{read("0 0; 0 0"), "0 0", "0 0"},
		{read("0 2 4"), "1", "0 1/2 0"},
		{read("0; 2; 4"), "0 1 2", "1/2"},
		{read("1 2 3 4; 2 4 7 8"), "1 3", "-2 0 1 0"},
		{read("1 2 0 1; 0 0 0 1; 1 2 0 2"), "5 3 8", "2 0 0 3"},
		{filled(api.MaxRows, api.MaxRows, "2"), text(filled(1, api.MaxRows, "3").Cells), "3/2" + text0(api.MaxRows-1)},
	} {
		got, e := matrix.Solve(x.m, numbers(x.b))
		expectNumbers(t, "Solve of "+textOf(x.m)+" and "+x.b, got, e, numbers(x.want))
	}
}

// text0 returns the text of n zeros, each behind a space.
func text0(n int) string {
	s := ""
	for range n {
		s += " 0"
	}
	return s
}

// P9.4
func TestSolveNone(t *testing.T) {
	for _, x := range []struct {
		m api.Matrix
		b string
	}{
		{read("1 1; 2 2"), "1 3"},
		{read("0"), "1/2"},
		{api.Matrix{Rows: 1}, "-1"},
		{api.Matrix{Rows: 2}, "0 1"},
		{read("1; 1"), "1 2"},
		{read("1 2 3; 4 5 6; 7 8 9"), "1 2 4"},
		{read("1 2; 0 0"), "0 1"},
		{read("0 0; 1 2"), "1 0"},
		{read("1 0; 0 1; 1 1"), "1 1 3"},
	} {
		if got, e := matrix.Solve(x.m, numbers(x.b)); len(got) != 0 || e != api.ErrNone {
			t.Errorf("Solve of %s and %s returns %s, %d", textOf(x.m), x.b, text(got), e)
		}
	}
}

// P9.4: a solution is one, only its unknowns of columns with a pivot are not 0, and there is none exactly if the rank grows with the column b.
func TestSolveRandom(t *testing.T) {
	r := newSource()
	counts := map[api.Errno]int{}
	for range rounds {
		m := randomMatrix(r, r.Intn(5), r.Intn(5))
		b := randomNumbers(r, m.Rows)
		if r.Intn(2) == 0 {
			b = times(m, randomNumbers(r, m.Cols))
		}
		got, e := matrix.Solve(m, b)
		counts[e]++
		if !hasSolution(m, b) {
			if len(got) != 0 || e != api.ErrNone {
				t.Fatalf("Solve of %s and %s returns %s, %d", textOf(m), text(b), text(got), e)
			}
			continue
		}
		if len(got) != m.Cols {
			t.Fatalf("Solve of %s and %s returns %s, %d", textOf(m), text(b), text(got), e)
		}
		expectNumbers(t, "the product of "+textOf(m)+" and its solution", times(m, got), e, b)
		pivots := pivotsOf(m)
		for k, a := range got {
			if !rational.Right(a) || rational.Sign(a) != 0 && !slices.Contains(pivots, k) {
				t.Fatalf("Solve of %s and %s returns %s, and the column %d has no pivot", textOf(m), text(b), text(got), k)
			}
		}
	}
	if counts[api.OK] < rounds/4 || counts[api.ErrNone] < rounds/8 {
		t.Errorf("the errors are %v", counts)
	}
}

// hasSolution reports whether the column b is a combination of the columns of m.
func hasSolution(m api.Matrix, b []api.Rat) bool {
	wide := api.Matrix{Rows: m.Rows, Cols: m.Cols + 1}
	for i := range m.Rows {
		wide.Cells = append(append(wide.Cells, row(m, i)...), b[i])
	}
	return rankOf(wide, m.Cols) == rankOf(wide, m.Cols+1)
}

// P9.4
func TestSolveErrors(t *testing.T) {
	for _, x := range []struct {
		m api.Matrix
		b string
	}{
		{api.Matrix{}, "1"},
		{api.Matrix{Rows: 2}, ""},
		{api.Matrix{Cols: 2}, "1 2"},
		{read("1 2 3; 4 5 6"), "1 2 3"},
		{read("1 2 3; 4 5 6"), "1"},
		{read("0 0"), "1 1"},
		{read("0; 0"), "1"},
	} {
		if got, e := matrix.Solve(x.m, numbers(x.b)); len(got) != 0 || e != api.ErrMismatch {
			t.Errorf("Solve of %s and %s returns %s, %d", textOf(x.m), x.b, text(got), e)
		}
	}
	for _, m := range wrongMatrices() {
		for _, b := range []string{"", "1", "1 2"} {
			if got, e := matrix.Solve(m, numbers(b)); len(got) != 0 || e != api.ErrArg {
				t.Errorf("Solve of %v and %s returns %s, %d", m, b, text(got), e)
			}
		}
	}
	for _, a := range wrongNumbers() {
		for _, m := range []api.Matrix{{}, read("1 2; 3 4"), read("0 0; 0 0"), read("1 2")} {
			if got, e := matrix.Solve(m, []api.Rat{number("1"), a}); len(got) != 0 || e != api.ErrArg {
				t.Errorf("Solve of %s and 1 and %v returns %s, %d", textOf(m), a, text(got), e)
			}
		}
	}
}

// P9.4
func TestKernel(t *testing.T) {
	for _, x := range []struct {
		m    api.Matrix
		want []string
	}{
		{api.Matrix{}, nil},
		{api.Matrix{Rows: 3}, nil},
		{api.Matrix{Cols: 2}, []string{"1 0", "0 1"}},
		{read("0"), []string{"1"}},
		{read("7"), nil},
		{read("1 1; 2 2"), []string{"-1 1"}},
		{read("1 2; 3 4"), nil},
		{read("0 2 4"), []string{"1 0 0", "0 -2 1"}},
		{read("1 2 3 4; 2 4 7 8"), []string{"-2 1 0 0", "-4 0 0 1"}},
		{read("1 2 0 1; 0 0 0 1; 1 2 0 2"), []string{"-2 1 0 0", "0 0 1 0"}},
		{read("0 3 1/2; 0 0 5"), []string{"1 0 0"}},
		{read("2 1 1"), []string{"-1/2 1 0", "-1/2 0 1"}},
	} {
		got, e := matrix.Kernel(x.m)
		if len(got) != len(x.want) || e != api.OK {
			t.Fatalf("Kernel of %s returns %d solutions, %d, want %v", textOf(x.m), len(got), e, x.want)
		}
		for n, want := range x.want {
			expectNumbers(t, "Kernel of "+textOf(x.m), got[n], e, numbers(want))
		}
	}
	for _, m := range wrongMatrices() {
		if got, e := matrix.Kernel(m); len(got) != 0 || e != api.ErrArg {
			t.Errorf("Kernel of %v returns %v, %d", m, got, e)
		}
	}
}

// P9.4: one solution for each column without a pivot, with the unknown 1 there, and 0 at the others.
func TestKernelRandom(t *testing.T) {
	r := newSource()
	for range rounds {
		m := randomMatrix(r, r.Intn(5), r.Intn(5))
		basis, e := matrix.Kernel(m)
		pivots := pivotsOf(m)
		if len(basis) != m.Cols-len(pivots) {
			t.Fatalf("Kernel of %s has %d solutions", textOf(m), len(basis))
		}
		next := 0
		for free := range m.Cols {
			if slices.Contains(pivots, free) {
				continue
			}
			x := basis[next]
			next++
			expectNumbers(t, "the product of "+textOf(m)+" and "+text(x), times(m, x), e, filled(1, m.Rows, "0").Cells)
			for k, a := range x {
				want := 0
				if k == free {
					want = 1
				}
				if !rational.Right(a) || !slices.Contains(pivots, k) && !isSame(a, rational.Of(want)) {
					t.Fatalf("Kernel of %s has the solution %s for the column %d", textOf(m), text(x), free)
				}
			}
		}
	}
}
