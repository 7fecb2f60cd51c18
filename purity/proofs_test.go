package purity_test

import (
	"testing"

	"geoprover/api"
	"geoprover/groebner"
	"geoprover/ideal"
	"geoprover/matrix"
	"geoprover/poly"
	"geoprover/rational"
	"geoprover/triangular"
)

// cells returns the numbers with these texts.
func cells(t *testing.T, texts ...string) []api.Rat {
	t.Helper()
	var l []api.Rat
	for _, s := range texts {
		l = append(l, number(t, s))
	}
	return l
}

func TestMatrix(t *testing.T) {
	s := samples{}
	s.add(-1, 0, 1, 2, 3)
	lists := [][]api.Rat{
		nil, {}, cells(t, "0"), cells(t, "1"), cells(t, "-2/3", "5"), cells(t, "0", "0", "0", "0"), cells(t, "0", "2", "2", "0"),
		cells(t, "1", "-1/2", "-1/2", "12345678901234567890/7"), cells(t, "1", "2", "2", "4"), cells(t, "0", "1", "2", "0", "0", "3"), {{}, {}},
	}
	for _, l := range lists {
		s.add(l)
		for rows := range 4 {
			for cols := range 4 {
				if rows*cols == len(l) {
					s.add(api.Matrix{Rows: rows, Cols: cols, Cells: l})
				}
			}
		}
	}
	s.add(api.Matrix{Rows: 2, Cols: 2, Cells: lists[4]}, api.Matrix{Rows: 3, Cols: 3, Cells: cells(t, "1", "2", "3", "2", "0", "0", "3", "0", "9")})
	checkAll(t, s, matrix.Right, matrix.Make, matrix.At, matrix.Equal, matrix.Transpose, matrix.Mul, matrix.Det, matrix.Rank, matrix.Solve, matrix.Kernel, matrix.Quadratic, matrix.Reduce)
}

func TestIdeal(t *testing.T) {
	s := samples{}
	polys := terms(t)
	one, x := poly.Const(rational.Of(1)), poly.Var(0)
	two := poly.Const(rational.Of(2))
	s.add(-1, 0, 1, 2)
	s.add([]int(nil), []int{1}, []int{0, 2}, []int{2, 1, 1}, []int{65})
	s.add([]api.Poly(nil), polys[:1], polys[3:4], polys[5:7], polys[4:7], []api.Poly{one}, []api.Poly{two, x})
	s.add(polys[0], one, x, polys[6])
	multiple := poly.Mul(polys[6], poly.Mul(x, x))
	s.add(
		api.Element{},
		api.Element{Poly: polys[6], Cofactors: []api.Poly{one}},
		api.Element{Poly: x, Cofactors: []api.Poly{x, polys[4]}},
		api.Certificate{},
		api.Certificate{Power: 1, Cofactors: []api.Poly{one}},
		api.Certificate{Factors: []api.Poly{two, x}, Powers: []int{3, 1}, Power: 2, Cofactors: []api.Poly{multiple}},
		api.Certificate{Factors: []api.Poly{x, polys[6]}, Powers: []int{3, 1}, Power: 1, Cofactors: []api.Poly{multiple, multiple}},
		api.Certificate{Factors: []api.Poly{polys[6], x, two}, Powers: []int{1, 3, 1}, Power: 1, Cofactors: []api.Poly{multiple, polys[6]}},
		api.Certificate{Factors: []api.Poly{x}, Powers: []int{1, 1}, Power: 1},
		api.Certificate{Factors: []api.Poly{nil}, Powers: []int{1}, Power: 1},
	)
	checkAll(t, s, ideal.Combine, ideal.Right, ideal.Product, ideal.Check, ideal.Cancel, ideal.Minimal, ideal.Same)
}

// lists returns lists of polynomials, some of which are chains.
func lists(t *testing.T) [][]api.Poly {
	polys := terms(t)
	x, y := poly.Var(0), poly.Var(1)
	return [][]api.Poly{
		nil, {}, polys[:2], polys[3:4], {x}, {x, y}, {y, x}, {x, x, nil}, {poly.Add(y, x), poly.Sub(y, x)}, polys[4:6], polys[6:], polys[4:],
		{polys[5], polys[6]}, {poly.Mul(x, y), poly.Mul(polys[4], polys[7])}, {x, polys[4]}, {poly.Mul(polys[5], polys[7]), polys[6]},
	}
}

func TestTriangular(t *testing.T) {
	s := samples{}
	for _, l := range lists(t) {
		s.add(l)
	}
	polys := terms(t)
	for i, p := range polys {
		s.add(p, poly.Mul(p, polys[(i+1)%len(polys)]))
	}
	s.add(api.Poly{{Mono: api.Mono{1}}})
	checkAll(t, s, triangular.Make, triangular.Right, triangular.Reduce, triangular.Initials)
}

func TestGroebner(t *testing.T) {
	s := samples{}
	s.add(api.Lex, api.DegLex, 2)
	for _, l := range lists(t) {
		s.add(l)
	}
	polys := terms(t)
	for i, p := range polys {
		s.add(p, poly.Mul(p, polys[(i+1)%len(polys)]))
	}
	checkAll(t, s, groebner.Divide, groebner.Pair, groebner.Basis, groebner.Reduced, groebner.Member)
}
