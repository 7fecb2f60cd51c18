package goals_test

import (
	"math/rand"
	"testing"

	"geoprover/api"
	"geoprover/coordinates"
	"geoprover/goals"
	"geoprover/predicate"
)

// points returns a frame whose points have these coordinates.
func points(texts ...string) api.Frame {
	var x api.Frame
	for _, s := range texts {
		x.Coords = append(x.Coords, coord(s))
	}
	return x
}

// P24.1: the example of the promise, and those of the chapter.
func TestPolysExamples(t *testing.T) {
	expectText(t, fact(api.FactCollinear, 0, 1, 2), points("0, 0", "v0, 0", "v1, v2"), "v0*v2")
	x := points("v1, v2", "0, 0", "v0, 0")
	expectText(t, fact(api.FactMidpoint, 0, 1, 2), x, "-2*v1 + v0; -2*v2")
	f := figure("free, free, free, divide 0 1 =1/2, divide 2 1 =1/2")
	expectText(t, ratio("4", 0, 1, 0, 3), frameOf(t, f), "0")
	expectText(t, ratio("4", 2, 1, 2, 4), frameOf(t, f), "0")
}

// P24.1: each kind, for the points (0, 0), (v0, 0), (v1, v2), (v3, v4) and (v5, v6).
func TestPolysKinds(t *testing.T) {
	x := frameOf(t, figure("free, free, free, free, free"))
	for _, c := range []struct {
		f    api.Fact
		want string
	}{
		{fact(api.FactCollinear, 0, 1, 2), "v0*v2"},
		{fact(api.FactCollinear, 0, 2, 1), "-v0*v2"},
		{fact(api.FactCollinear, 0, 2, 3), "v1*v4 - v2*v3"},
		{fact(api.FactCollinear, 1, 2, 3), "v1*v4 - v0*v4 - v2*v3 + v0*v2"},
		{fact(api.FactCollinear, 2, 1, 3), "-v1*v4 + v0*v4 + v2*v3 - v0*v2"},
		{fact(api.FactParallel, 0, 1, 2, 3), "v0*v4 - v0*v2"},
		{fact(api.FactParallel, 0, 1, 3, 2), "-v0*v4 + v0*v2"},
		{fact(api.FactParallel, 0, 2, 0, 3), "v1*v4 - v2*v3"},
		{fact(api.FactParallel, 0, 2, 1, 3), "v1*v4 - v2*v3 + v0*v2"},
		{fact(api.FactPerpendicular, 0, 1, 2, 3), "v0*v3 - v0*v1"},
		{fact(api.FactPerpendicular, 0, 1, 3, 2), "-v0*v3 + v0*v1"},
		{fact(api.FactPerpendicular, 0, 2, 0, 3), "v2*v4 + v1*v3"},
		{fact(api.FactPerpendicular, 0, 2, 1, 3), "v2*v4 + v1*v3 - v0*v1"},
		{fact(api.FactCongruent, 0, 1, 0, 2), "-v2^2 - v1^2 + v0^2"},
		{fact(api.FactCongruent, 0, 2, 1, 0), "v2^2 + v1^2 - v0^2"},
		{fact(api.FactCongruent, 0, 2, 1, 2), "2*v0*v1 - v0^2"},
		{fact(api.FactCongruent, 0, 1, 3, 3), "v0^2"},
		{fact(api.FactMidpoint, 0, 1, 2), "v1 + v0; v2"},
		{fact(api.FactMidpoint, 1, 2, 3), "v3 + v1 - 2*v0; v4 + v2"},
		{fact(api.FactMidpoint, 2, 0, 1), "-2*v1 + v0; -2*v2"},
		{fact(api.FactMidpoint, 3, 3, 2), "-v3 + v1; -v4 + v2"},
		{fact(api.FactSame, 0, 1), "-v0; 0"},
		{fact(api.FactSame, 1, 0), "v0; 0"},
		{fact(api.FactSame, 2, 3), "-v3 + v1; -v4 + v2"},
		{fact(api.FactConcyclic, 0, 1, 2, 3), "-v0*v2*v4^2 + v0*v2^2*v4 + v0*v1^2*v4 - v0^2*v1*v4 - v0*v2*v3^2 + v0^2*v2*v3"},
		{fact(api.FactConcyclic, 2, 1, 0, 3), "v0*v2*v4^2 - v0*v2^2*v4 - v0*v1^2*v4 + v0^2*v1*v4 + v0*v2*v3^2 - v0^2*v2*v3"},
		{fact(api.FactAngle, 0, 1, 0, 2, 0, 1, 0, 3), "-v0^2*v1*v4 + v0^2*v2*v3"},
		{fact(api.FactAngle, 0, 1, 0, 3, 0, 1, 0, 2), "v0^2*v1*v4 - v0^2*v2*v3"},
		{fact(api.FactAngle, 0, 1, 0, 2, 0, 3, 0, 1), "v0^2*v1*v4 + v0^2*v2*v3"},
		{fact(api.FactAngle, 0, 1, 0, 2, 0, 1, 0, 1), "v0^3*v2"},
		{fact(api.FactAngle, 0, 1, 0, 1, 0, 1, 0, 2), "-v0^3*v2"},
		{fact(api.FactAngle, 0, 1, 2, 3, 0, 1, 3, 4), "-v0^2*v3*v6 + v0^2*v1*v6 + v0^2*v4*v5 - v0^2*v2*v5 - v0^2*v1*v4 + v0^2*v2*v3"},
		{ratio("1", 0, 1, 0, 2), "-v2^2 - v1^2 + v0^2"},
		{ratio("0", 0, 1, 0, 2), "v0^2"},
		{ratio("0", 0, 2, 0, 1), "v2^2 + v1^2"},
		{ratio("-1", 0, 1, 0, 2), "v2^2 + v1^2 + v0^2"},
		{ratio("4", 0, 1, 0, 2), "-4*v2^2 - 4*v1^2 + v0^2"},
		{ratio("2", 0, 1, 0, 2), "-2*v2^2 - 2*v1^2 + v0^2"},
		{ratio("-4", 0, 1, 0, 2), "4*v2^2 + 4*v1^2 + v0^2"},
		{ratio("9/4", 0, 2, 0, 1), "v2^2 + v1^2 - 9/4*v0^2"},
		{ratio("3/4", 0, 2, 0, 1), "v2^2 + v1^2 - 3/4*v0^2"},
		{ratio("-1/12345678901234567890", 1, 1, 0, 1), "1/12345678901234567890*v0^2"},
		{ratio("-5/3", 1, 1, 2, 2), "0"},
		{ratio("-5/3", 1, 0, 0, 1), "8/3*v0^2"},
	} {
		expectText(t, c.f, x, c.want)
		expectModel(t, c.f, x)
	}
}

// P24.1: two polynomials for FactMidpoint and FactSame, one for each other kind, for equal points, too.
func TestPolysEqualPoints(t *testing.T) {
	x := frameOf(t, figure("free, free, free, online 1 2, shift 3 0 0"))
	for kind := api.FactCollinear; kind <= api.FactRatio; kind++ {
		want := 1
		if kind == api.FactMidpoint || kind == api.FactSame {
			want = 2
		}
		for point := range x.Coords {
			f := api.Fact{Kind: kind}
			for range predicate.Arity(kind) {
				f.Args = append(f.Args, point)
			}
			if kind == api.FactRatio {
				f.Ratio = number("-2/3")
			}
			l := polysOf(t, f, x)
			if len(l) != want || len(l[0]) > 0 || len(l[want-1]) > 0 {
				t.Errorf("the polynomials of %v are %s", f, show(l...))
			}
		}
	}
	expectText(t, fact(api.FactSame, 3, 4), x, "0; 0")
	expectText(t, fact(api.FactCollinear, 3, 4, 1), x, "0")
	expectText(t, fact(api.FactCollinear, 1, 2, 4), x, "0")
}

// P24.3
func TestTrivial(t *testing.T) {
	r := newSource()
	for range rounds / 3 {
		f := randomFigure(r, 8)
		x := frameOf(t, f)
		for range 5 {
			a, b := r.Intn(len(f.Steps)), r.Intn(len(f.Steps))
			expectText(t, fact(api.FactCollinear, a, a, b), x, "0")
			expectText(t, fact(api.FactSame, a, a), x, "0; 0")
			expectText(t, fact(api.FactCongruent, a, b, b, a), x, "0")
		}
	}
}

// P24.1: random facts about random figures against the list of DOC.md.
func TestPolysRandom(t *testing.T) {
	r := newSource()
	zero := map[int]int{}
	for range rounds {
		f := randomFigure(r, 7)
		x := frameOf(t, f)
		for kind := api.FactCollinear; kind <= api.FactRatio; kind++ {
			if expectModel(t, randomFact(r, kind, len(f.Steps)), x) == 0 {
				zero[kind]++
			}
		}
	}
	for kind := api.FactCollinear; kind <= api.FactRatio; kind++ {
		if zero[kind] == 0 || zero[kind] > rounds*4/5 {
			t.Errorf("%d of %d polynomials of the kind %d are 0", zero[kind], rounds, kind)
		}
	}
}

// P24.1: the goals of a figure, and facts about the first points of one with more.
func TestPolysOfBeginnings(t *testing.T) {
	long, short := frameOf(t, figure("free, free, free, apex 0 1, meet 0 2 1 3")), frameOf(t, figure("free, free, free"))
	f := fact(api.FactParallel, 0, 2, 1, 2)
	if a, b := show(polysOf(t, f, long)...), show(polysOf(t, f, short)...); a != b || a != "v0*v2" {
		t.Errorf("the polynomials are %s and %s", a, b)
	}
}

// expectRight fails unless Polys returns the error of predicate.Right.
func expectRight(t *testing.T, f api.Fact, x api.Frame, want api.Errno) {
	t.Helper()
	if e := predicate.Right(f, len(x.Coords)); e != want {
		t.Errorf("Right of %v for %d points is %d, want %d", f, len(x.Coords), e, want)
	}
	expectError(t, f, x, want)
}

// P24.1: each error of predicate.Right, in their order.
func TestPolysErrors(t *testing.T) {
	x := frameOf(t, figure("free, free, free"))
	half := number("1/2")
	wrong := api.Rat{Num: api.Int{Abs: api.Nat{2}}, Den: api.Nat{4}}
	for _, kind := range []int{0, -1, 10, 60} {
		expectRight(t, api.Fact{Kind: kind}, x, api.ErrKind)
		expectRight(t, api.Fact{Kind: kind, Args: []int{0, 1, -1, 9}, Ratio: wrong}, x, api.ErrKind)
		expectRight(t, api.Fact{Kind: kind, Args: []int{0, 1}}, api.Frame{}, api.ErrKind)
	}
	for kind := api.FactCollinear; kind <= api.FactRatio; kind++ {
		arity := predicate.Arity(kind)
		ratio := api.Rat{}
		if kind == api.FactRatio {
			ratio = half
		}
		for n := range 12 {
			if n != arity {
				expectRight(t, api.Fact{Kind: kind, Args: make([]int, n), Ratio: ratio}, x, api.ErrArg)
				expectRight(t, api.Fact{Kind: kind, Args: make([]int, n), Ratio: wrong}, api.Frame{}, api.ErrArg)
			}
		}
		for k := range arity {
			for _, arg := range []int{-1, 3, 1 << 62, -1 << 63} {
				args := make([]int, arity)
				args[k] = arg
				expectRight(t, api.Fact{Kind: kind, Args: args, Ratio: ratio}, x, api.ErrRange)
				expectRight(t, api.Fact{Kind: kind, Args: args, Ratio: wrong}, x, api.ErrRange)
			}
			args := make([]int, arity)
			args[k] = 2
			polysOf(t, api.Fact{Kind: kind, Args: args, Ratio: ratio}, x)
			expectRight(t, api.Fact{Kind: kind, Args: args, Ratio: ratio}, frameOf(t, figure("free, free")), api.ErrRange)
		}
		expectRight(t, api.Fact{Kind: kind, Args: make([]int, arity), Ratio: ratio}, api.Frame{}, api.ErrRange)
		expectRight(t, api.Fact{Kind: kind, Args: make([]int, arity), Ratio: wrong}, x, api.ErrArg)
		if kind != api.FactRatio {
			expectRight(t, api.Fact{Kind: kind, Args: make([]int, arity), Ratio: half}, x, api.ErrArg)
			expectRight(t, api.Fact{Kind: kind, Args: make([]int, arity), Ratio: number("0")}, x, api.ErrArg)
			empty := api.Rat{Num: api.Int{Abs: api.Nat{}}, Den: api.Nat{}}
			polysOf(t, api.Fact{Kind: kind, Args: make([]int, arity), Ratio: empty}, x)
			continue
		}
		expectRight(t, api.Fact{Kind: kind, Args: make([]int, arity)}, x, api.ErrArg)
	}
}

// randomTerms returns a list of terms that is rarely a valid polynomial.
func randomTerms(r *rand.Rand) api.Poly {
	exponents := []int{0, 1, 1, 2, -1, api.MaxExp + 1, 1 << 62, -1 << 63}
	var p api.Poly
	for range r.Intn(4) {
		mono := make(api.Mono, []int{0, 1, 2, 3, api.MaxVars + 1}[r.Intn(5)])
		for v := range mono {
			mono[v] = exponents[r.Intn(len(exponents))]
		}
		num := api.Int{Neg: r.Intn(2) == 0, Abs: api.Nat{uint16(r.Intn(4)), uint16(r.Intn(2))}}
		p = append(p, api.Term{Coef: api.Rat{Num: num, Den: api.Nat{uint16(r.Intn(3))}[:r.Intn(2)]}, Mono: mono})
	}
	return p
}

// Nothing is promised for frames that coordinates.Of did not return (R2), but Polys returns all the same, and examines the fact.
func TestInvalidFrames(t *testing.T) {
	r := newSource()
	for range 2 * rounds {
		x, _ := coordinates.Of(randomFigure(r, 4))
		for range 1 + r.Intn(3) {
			x.Coords = append(x.Coords, api.Coord{X: randomTerms(r), Y: randomTerms(r)})
		}
		for kind := api.FactCollinear; kind <= api.FactRatio; kind++ {
			f := randomFact(r, kind, len(x.Coords)+1)
			want := predicate.Right(f, len(x.Coords))
			if l, e := goals.Polys(f, x); e != want && e != api.ErrLarge || e != api.OK && len(l) > 0 {
				t.Fatalf("Polys returns %d polynomials and %d", len(l), e)
			}
		}
	}
}
