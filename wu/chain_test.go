package wu_test

import (
	"slices"
	"testing"

	"geoprover/api"
	"geoprover/ideal"
	"geoprover/triangular"
	"geoprover/wu"
)

// expectChain fails unless Chain returns elements with these polynomials and cofactors.
func expectChain(t *testing.T, p api.Problem, want ...api.Element) {
	t.Helper()
	got, e := wu.Chain(p)
	same := func(x, y api.Element) bool {
		return equalAll([]api.Poly{x.Poly}, []api.Poly{y.Poly}) && equalAll(x.Cofactors, y.Cofactors)
	}
	if !slices.EqualFunc(got, want, same) || e != api.OK {
		t.Fatalf("Chain of %s returns %v, %d, want %v", show(p.Hyps), got, e, want)
	}
}

// expectNoChain fails unless Chain, Rest and Prove return this error alone.
func expectNoChain(t *testing.T, p api.Problem, want api.Errno) {
	t.Helper()
	if got, e := wu.Chain(p); len(got) > 0 || e != want {
		t.Errorf("Chain of %s returns %v, %d, want the error %d", show(p.Hyps), got, e, want)
	}
	for goal := range p.Goals {
		expectNoRests(t, p, goal, want)
	}
}

// P28.1: the example of the promise: no hypotheses.
func TestChainOfNothing(t *testing.T) {
	expectChain(t, api.Problem{})
	expectChain(t, sourceOf(t, ""))
	expectChain(t, sourceOf(t, "points A, B, C; M := midpoint(B, C); P := on(line(A, M)); prove collinear(A, M, P);"))
}

// P28.1: hypotheses that are 0, alone and among others.
func TestChainOfZero(t *testing.T) {
	p := makeOf(t, figure("free, free, foot 1 0 0, mirror 1 1 1"))
	if len(p.Hyps) != 4 {
		t.Fatalf("the hypotheses are %s", show(p.Hyps))
	}
	expectChain(t, p)
	p = makeOf(t, figure("free, free, free, foot 1 0 0, foot 2 0 1"))
	expectChain(t, p,
		api.Element{Poly: read("v0*v5 - v0*v1"), Cofactors: readAll("0, 0, 0, 1")},
		api.Element{Poly: read("v0*v6"), Cofactors: readAll("0, 0, 1, 0")},
	)
	expectChain(t, made(readAll("0, 0")))
	expectChain(t, made(readAll("0, -2*v1, 0")), api.Element{Poly: read("v1"), Cofactors: readAll("0, -1/2, 0")})
}

// P28.1: hypotheses of few steps, with their cofactors.
func TestChain(t *testing.T) {
	expectChain(t, sourceOf(t, "points A, B, C; D := foot(C, line(A, B));"), // v0 v4 and v0 v3 - v0 v1
		api.Element{Poly: read("v0*v3 - v0*v1"), Cofactors: readAll("0, 1")},
		api.Element{Poly: read("v0*v4"), Cofactors: readAll("1, 0")},
	)
	expectChain(t, sourceOf(t, "points A, B; C := apex(A, B);"), // v2^2 + v1^2 - v0^2 and v2^2 + v1^2 - 2 v0 v1
		api.Element{Poly: read("2*v0*v1 - v0^2"), Cofactors: readAll("1, -1")},
		api.Element{Poly: read("v2^2 + v1^2 - v0^2"), Cofactors: readAll("1, 0")},
	)
	expectChain(t, made(readAll("v1 - v0, v1 + v0")),
		api.Element{Poly: read("v0"), Cofactors: readAll("-1/2, 1/2")},
		api.Element{Poly: read("v1 - v0"), Cofactors: readAll("1, 0")},
	)
}

// P28.1: the chain is what triangular.Make returns for the hypotheses. P5: its elements are combinations of these.
func TestChainRandom(t *testing.T) {
	r := newSource()
	long := 0
	for range rounds {
		p := makeOf(t, randomFigure(r, 4))
		want, e := triangular.Make(p.Hyps)
		if e != api.OK {
			expectNoChain(t, p, e)
			continue
		}
		expectChain(t, p, want...)
		chain, _ := wu.Chain(p)
		for _, x := range chain {
			if !ideal.Right(x, p.Hyps) {
				t.Fatalf("Chain of %s returns %v", show(p.Hyps), x)
			}
		}
		if len(chain) > 3 {
			long++
		}
	}
	if long < rounds/4 {
		t.Errorf("only %d long chains", long)
	}
}

// P28.1: the errors of triangular.Make: a large element of a problem that is right, large cofactors and divisions, and hypotheses without a common zero.
func TestChainErrors(t *testing.T) {
	expectNoChain(t, makeOf(t, largeChain()), api.ErrLarge)
	goals := [][]api.Poly{nil, readAll("0"), readAll("v0, v1"), {dense(0, 1)}}
	high := dense(0, api.MaxTerms+1)
	for _, hyps := range [][]api.Poly{
		{high},                               // a large hypothesis
		append(readAll("v1, v2 - v0"), high), // a large hypothesis behind others
		{timesPower(1, 3, dense(0, 1500)), read("v0*v1 + v1 - 1")}, // a division that becomes large
	} {
		expectNoChain(t, made(hyps, goals...), api.ErrLarge)
	}
	for _, hyps := range []string{"1", "-2/3", "v1, v0, 5", "v0, v0 - 1", "v1 - v0, v1 + v0, v0 + 1", "v1^2 + 1, v1^2 - 1", "v3, v2, v1 - v3, v1 - 1"} {
		expectNoChain(t, made(readAll(hyps), goals...), api.ErrNone)
	}
	expectNoChain(t, made(append(readAll("1"), high), goals...), api.ErrNone)
	expectNoChain(t, made([]api.Poly{high, read("1")}, goals...), api.ErrLarge)
}
