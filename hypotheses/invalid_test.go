package hypotheses_test

import (
	"math/rand"
	"testing"

	"geoprover/api"
	"geoprover/coordinates"
	"geoprover/hypotheses"
	"geoprover/lower"
)

// randomTerms returns a list of terms that is rarely a valid polynomial.
func randomTerms(r *rand.Rand) api.Poly {
	exponents := []int{0, 1, 1, 2, -1, api.MaxExp + 1, 1 << 62, -1 << 63}
	var p api.Poly
	for range r.Intn(4) {
		mono := make(api.Mono, []int{0, 1, 2, 3, api.MaxVars + 1}[r.Intn(5)])
		for v := range mono {
			mono[v] = exponents[r.Intn(len(exponents))]
		}
		num := api.Int{Neg: r.Intn(2) == 0, Abs: api.Nat{uint16(r.Intn(4)), uint16(r.Intn(2))}}
		p = append(p, api.Term{Coef: api.Rat{Num: num, Den: api.Nat{uint16(r.Intn(3))}[:r.Intn(2)]}, Mono: mono})
	}
	return p
}

// randomCoord returns a point whose coordinates are rarely valid.
func randomCoord(r *rand.Rand) api.Coord { return api.Coord{X: randomTerms(r), Y: randomTerms(r)} }

// Nothing is promised for arguments that are not valid (R2), but functions return all the same, and indices and figures are examined.
func TestInvalidArguments(t *testing.T) {
	r := newSource()
	for range 4 * rounds {
		hypotheses.Cross(randomCoord(r), randomCoord(r), randomCoord(r), randomCoord(r))
		hypotheses.Dot(randomCoord(r), randomCoord(r), randomCoord(r), randomCoord(r))
		f := randomFigure(r, 6)
		x, _ := coordinates.Of(randomFigure(r, 6)) // mostly the frame of another figure
		s := &f.Steps[r.Intn(len(f.Steps))]
		s.Kind = r.Intn(17) - 1
		s.Args = append(s.Args, r.Intn(9)-2)[r.Intn(2):]
		if e := lower.Right(f); e != api.OK {
			expectError(t, f, e)
		}
		for range r.Intn(3) {
			x.Coords = append(x.Coords, randomCoord(r))
			x.Vars = append(x.Vars, api.Var{Kind: r.Intn(4), Step: r.Intn(9) - 2, Number: r.Intn(4)})
		}
		for i := -1; i < 9; i++ {
			if _, e := hypotheses.Step(f, x, i); (e == api.ErrRange) != (i < 0 || i >= len(f.Steps)) {
				t.Fatalf("Step of %d of %d steps has the error %d", i, len(f.Steps), e)
			}
		}
	}
}
