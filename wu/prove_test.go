package wu_test

import (
	"testing"

	"geoprover/api"
	"geoprover/ideal"
	"geoprover/poly"
	"geoprover/triangular"
	"geoprover/wu"
)

// P28.3: the example of the promise: no hypotheses, and so no factors.
func TestProveWithoutFactors(t *testing.T) {
	p := sourceOf(t, "points A, B, C; M := midpoint(B, C); N := midpoint(A, C); prove parallel(line(M, N), line(A, B)); prove midpoint(M, B, C);")
	expectProof(t, p, 0, api.Certificate{Power: 1})
	expectProof(t, p, 1, api.Certificate{Power: 1}, api.Certificate{Power: 1})
	p = makeOf(t, figure("free, free, foot 1 0 0 | perpendicular 0 2 0 0")) // two hypotheses that are 0
	expectProof(t, p, 0, api.Certificate{Power: 1, Cofactors: readAll("0, 0")})
	expectProof(t, made(readAll("v0"), nil), 0)
}

// P28.3: factors are all initials, also the constants and those with the power 0.
func TestProveFactors(t *testing.T) {
	p := sourceOf(t, "points A, B, C; D := foot(C, line(A, B)); prove collinear(A, B, D); prove perpendicular(line(A, B), line(C, D)); prove same(A, A);")
	factors := readAll("v0, v0")
	expectProof(t, p, 0, api.Certificate{Factors: factors, Powers: []int{0, 1}, Power: 1, Cofactors: readAll("v0, 0")})
	expectProof(t, p, 1, api.Certificate{Factors: factors, Powers: []int{1, 0}, Power: 1, Cofactors: readAll("0, v0")})
	none := api.Certificate{Factors: factors, Powers: []int{0, 0}, Power: 1, Cofactors: readAll("0, 0")}
	expectProof(t, p, 2, none, none)
	p = sourceOf(t, "points A, B; C := apex(A, B); prove congruent(A, C, A, B); prove congruent(A, C, B, C);")
	expectProof(t, p, 0, api.Certificate{Factors: readAll("2*v0, 1"), Powers: []int{0, 1}, Power: 1, Cofactors: readAll("1, 0")})
	expectProof(t, p, 1, api.Certificate{Factors: readAll("2*v0, 1"), Powers: []int{1, 0}, Power: 1, Cofactors: readAll("2*v0, -2*v0")})
	expectProof(t, made(readAll("v0 - 1, v1^2*v0 - v0"), readAll("v1^2 - 1, v1^2 - v0")), 0,
		api.Certificate{Factors: readAll("1, v0"), Powers: []int{0, 1}, Power: 1, Cofactors: readAll("0, 1")},
		api.Certificate{Factors: readAll("1, v0"), Powers: []int{1, 1}, Power: 1, Cofactors: readAll("-v0, 1")},
	)
}

// P28.3: powers above 1, and several factors.
func TestProvePowers(t *testing.T) {
	expectProof(t, made(readAll("v0*v1 - 1"), readAll("v0*v1^2 + v0*v1 - v1 - 1")), 0,
		api.Certificate{Factors: readAll("v0"), Powers: []int{2}, Power: 1, Cofactors: readAll("v0^2*v1 + v0^2")})
	expectProof(t, made(readAll("v0*v1, v0*v2"), readAll("v2^2 + v1")), 0,
		api.Certificate{Factors: readAll("v0, v0"), Powers: []int{1, 1}, Power: 1, Cofactors: readAll("v0, v0*v2")})
	p := sourceOf(t, theorems()[6]) // feet of altitudes and the midpoint of a side, on a circle
	l, e := wu.Prove(p, 0)
	if e != api.OK || len(l) != 1 || len(l[0].Factors) != 6 {
		t.Fatalf("Prove returns %s, %d", showProof(l), e)
	}
	for i, n := range l[0].Powers {
		if n != 2 {
			t.Errorf("the factor %d has the power %d", i, n)
		}
	}
	expectProof(t, p, 0, certificateOf(t, p, p.Goals[0][0]))
}

// P28.3: a rest that is not 0, for the first polynomial of a goal and for later ones.
func TestProveNone(t *testing.T) {
	p := sourceOf(t, "points A, B, C; D := foot(C, line(A, B)); prove collinear(A, B, C); prove same(C, D); prove midpoint(D, A, B); prove congruent(A, D, B, D); prove collinear(A, B, D);")
	for goal := range 4 {
		expectNoProof(t, p, goal, api.ErrNone)
	}
	if l, e := wu.Prove(p, 4); len(l) != 1 || e != api.OK {
		t.Errorf("Prove returns %s, %d", showProof(l), e)
	}
	for _, goal := range []string{"v1", "v1, v0", "v0, v1", "v0, 0, v1 + v0, v0", "2"} {
		expectNoProof(t, made(readAll("v0"), readAll(goal)), 0, api.ErrNone)
	}
}

// P28.3: cofactors with MaxTerms terms and with one more, of problems that are right.
func TestProveLimit(t *testing.T) {
	p := makeOf(t, longCofactor(api.MaxTerms/2, false))
	l, e := wu.Prove(p, 0)
	if e != api.OK || max(len(l[0].Cofactors[0]), len(l[0].Cofactors[1])) != api.MaxTerms {
		t.Fatalf("Prove returns the error %d", e)
	}
	expectProof(t, p, 0, certificateOf(t, p, p.Goals[0][0]))
	p = makeOf(t, longCofactor(api.MaxTerms/2+1, true))
	if c := certificateOf(t, p, p.Goals[0][0]); max(len(c.Cofactors[0]), len(c.Cofactors[1])) != api.MaxTerms+1 {
		t.Fatalf("there are cofactors with %d and %d terms", len(c.Cofactors[0]), len(c.Cofactors[1]))
	}
	expectNoProof(t, p, 0, api.ErrLarge)
	expectRests(t, p, 0, nil)
}

// combined returns hypotheses whose chain is v2, with the cofactors -p and 1, and v3, with the cofactors 1 and 0.
func combined(p api.Poly) []api.Poly {
	return []api.Poly{read("v3"), poly.Add(read("v2"), poly.Mul(p, read("v3")))}
}

// P28.3: only the cofactors are examined, not what they are sums of: here a p has 6000 terms, but b - a p has 3000.
func TestProveLimitOfSums(t *testing.T) {
	p := dense(0, 3000)
	a, b := read("v1 + 1"), poly.Mul(read("v1"), p)
	goal := poly.Add(poly.Mul(a, read("v2")), poly.Mul(b, read("v3")))
	x := made(combined(p), []api.Poly{goal})
	expectProof(t, x, 0, api.Certificate{Factors: readAll("1, 1"), Powers: []int{1, 1}, Power: 1, Cofactors: []api.Poly{poly.Neg(p), a}})
	if c, _ := wu.Prove(x, 0); ideal.Check(c[0], x.Hyps, goal) != api.OK {
		t.Error("the certificate is not accepted")
	}
	x.Goals[0] = []api.Poly{poly.Sub(goal, poly.Mul(b, read("v3")))} // without b
	expectNoProof(t, x, 0, api.ErrLarge)
}

// P28.3: the errors in their order: those of all reductions, then rests, then cofactors.
func TestProveErrors(t *testing.T) {
	hyps := combined(dense(0, 3000))
	good, rest, long, invalid := read("v3"), read("v0"), read("v1*v2 + v2"), api.Poly{{Mono: api.Mono{-1}}}
	large := poly.Mul(read("v3"), dense(0, api.MaxTerms+1))
	for _, c := range []struct {
		goal []api.Poly
		want api.Errno
	}{
		{[]api.Poly{long}, api.ErrLarge}, {[]api.Poly{good, long}, api.ErrLarge}, {[]api.Poly{long, good}, api.ErrLarge},
		{[]api.Poly{long, rest}, api.ErrNone}, {[]api.Poly{rest, long}, api.ErrNone}, {[]api.Poly{good, rest, long}, api.ErrNone},
		{[]api.Poly{long, invalid}, api.ErrArg}, {[]api.Poly{rest, invalid}, api.ErrArg}, {[]api.Poly{long, rest, good, invalid}, api.ErrArg},
		{[]api.Poly{rest, large}, api.ErrLarge}, {[]api.Poly{large, rest}, api.ErrLarge}, {[]api.Poly{rest, large, invalid}, api.ErrLarge}, {[]api.Poly{rest, invalid, large}, api.ErrArg},
	} {
		expectNoProof(t, made(hyps, c.goal), 0, c.want)
		expectNoProof(t, made(hyps, []api.Poly{good}, c.goal), 1, c.want)
		expectNoProof(t, made(hyps, c.goal), 1, api.ErrRange)
		expectNoProof(t, made(append(hyps, read("7")), c.goal), 0, api.ErrNone) // the error of the chain
	}
}

// P28.3: against the definition, for theorems and random figures.
func TestProveRandom(t *testing.T) {
	var l []api.Problem
	for _, s := range theorems() {
		p := sourceOf(t, s)
		for goal := range p.Goals {
			if _, e := wu.Prove(p, goal); e != api.OK {
				t.Errorf("the goal %d of %s is not proved: %d", goal, s, e)
			}
		}
		l = append(l, p)
	}
	r := newSource()
	for range rounds {
		f := randomFigure(r, 4)
		f.Goals = append(f.Goals[:min(len(f.Goals), 7)], randomFact(r, len(f.Steps)))
		l = append(l, makeOf(t, f))
	}
	proved, none := map[int]int{}, 0
	for _, p := range l {
		for goal, polys := range p.Goals {
			if expectDefined(t, p, goal) {
				proved[len(polys)]++
			} else {
				none++
			}
		}
	}
	if proved[1] < rounds || proved[2] < rounds/10 || none < rounds/4 {
		t.Errorf("%v goals are proved, and %d are not", proved, none)
	}
}

// expectDefined fails unless Prove returns what the definition says. It reports whether the goal is proved.
func expectDefined(t *testing.T, p api.Problem, goal int) bool {
	t.Helper()
	rests, e := wu.Rest(p, goal)
	if e != api.OK {
		expectNoProof(t, p, goal, e)
		return false
	}
	for _, q := range rests {
		if len(q) > 0 {
			expectNoProof(t, p, goal, api.ErrNone)
			return false
		}
	}
	var want []api.Certificate
	for _, g := range p.Goals[goal] {
		c := certificateOf(t, p, g)
		for _, q := range c.Cofactors {
			if len(q) > api.MaxTerms {
				expectNoProof(t, p, goal, api.ErrLarge)
				return false
			}
		}
		want = append(want, c)
	}
	expectProof(t, p, goal, want...)
	return true
}

// The initials that are factors belong to the chain that Chain returns.
func TestProveInitials(t *testing.T) {
	p := sourceOf(t, theorems()[5])
	chain, _ := wu.Chain(p)
	l, e := wu.Prove(p, 0)
	if e != api.OK || len(chain) != 10 {
		t.Fatalf("Prove returns %d with %d elements", e, len(chain))
	}
	var polys []api.Poly
	for _, x := range chain {
		polys = append(polys, x.Poly)
	}
	if !equalAll(l[0].Factors, triangular.Initials(polys)) {
		t.Errorf("the factors are %s", show(l[0].Factors))
	}
}
