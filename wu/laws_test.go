package wu_test

import (
	"slices"
	"testing"

	"geoprover/api"
	"geoprover/ideal"
	"geoprover/instance"
	"geoprover/poly"
	"geoprover/rational"
	"geoprover/refute"
	"geoprover/wu"
)

// problems returns the problems of theorems and of random figures.
func problems(t *testing.T) []api.Problem {
	t.Helper()
	var l []api.Problem
	for _, s := range theorems() {
		l = append(l, sourceOf(t, s))
	}
	r := newSource()
	for range rounds {
		l = append(l, makeOf(t, randomFigure(r, 5)))
	}
	return l
}

// P28.4, P4: what is proved is accepted by ideal.Check for each polynomial of the goal, unless a left side is large or a power is above 64.
func TestCertified(t *testing.T) {
	kinds, accepted := map[int]int{}, 0
	for _, p := range problems(t) {
		for goal, polys := range p.Goals {
			l, e := wu.Prove(p, goal)
			if e != api.OK {
				continue
			}
			if len(l) != len(polys) {
				t.Fatalf("the goal %d of %v has %d certificates", goal, p.Figure, len(l))
			}
			for i, g := range polys {
				switch e := ideal.Check(l[i], p.Hyps, g); e {
				case api.OK:
					accepted++
				case api.ErrLarge:
				default:
					t.Fatalf("the certificate of %s in %v is not accepted: %d", show(polys[i:i+1]), p.Figure, e)
				}
			}
			for _, s := range p.Figure.Steps {
				kinds[s.Kind]++
			}
		}
	}
	if accepted < rounds {
		t.Errorf("only %d certificates are accepted", accepted)
	}
	for kind := api.StepFree; kind <= api.StepApex; kind++ {
		if kinds[kind] < rounds/6 {
			t.Errorf("only %d steps of the kind %d", kinds[kind], kind)
		}
	}
}

// P28.4: a power above 64, with which ideal.Check returns ErrRange, and one of 64.
func TestCertifiedPowers(t *testing.T) {
	h := read("v0*v1 - 1")
	for n, want := range map[int]api.Errno{64: api.OK, 65: api.ErrRange} {
		goal := poly.Mul(h, dense(1, n))
		p := made([]api.Poly{h}, []api.Poly{goal})
		l, e := wu.Prove(p, 0)
		if e != api.OK || l[0].Powers[0] != n {
			t.Fatalf("Prove returns %s, %d", showProof(l), e)
		}
		if e := ideal.Check(l[0], p.Hyps, goal); e != want {
			t.Errorf("the certificate with the power %d has the error %d, want %d", n, e, want)
		}
	}
}

// P28.5: the certificates of a goal are the same without the other goals, and behind other ones.
func TestOtherGoals(t *testing.T) {
	r := newSource()
	count := 0
	for _, p := range problems(t) {
		for goal, g := range p.Figure.Goals {
			alone := makeOf(t, api.Figure{Steps: p.Figure.Steps, Goals: []api.Fact{g}})
			others := []api.Fact{randomFact(r, len(p.Figure.Steps)), randomFact(r, len(p.Figure.Steps)), g, p.Figure.Goals[0]}
			behind := makeOf(t, api.Figure{Steps: p.Figure.Steps, Goals: others})
			want, e := wu.Prove(p, goal)
			if e != api.OK {
				expectNoProof(t, alone, 0, e)
				expectNoProof(t, behind, 2, e)
				continue
			}
			count++
			expectProof(t, alone, 0, want...)
			expectProof(t, behind, 2, want...)
			got, _ := wu.Prove(alone, 0)
			if !slices.EqualFunc(got, want, ideal.Same) {
				t.Fatalf("the certificates of the goal %d of %v are not the same", goal, p.Figure)
			}
		}
	}
	if count < rounds {
		t.Errorf("only %d goals are proved", count)
	}
}

// P28.1, P5: the chain vanishes at all instances of the figure. P28.4: a goal that is proved is not violated by instances at which no factor vanishes, and so it is not refuted by them.
func TestInstances(t *testing.T) {
	met := 0
	for _, p := range problems(t) {
		chain, e := wu.Chain(p)
		if e != api.OK {
			continue
		}
		for count := range 3 {
			l, e := refute.Sample(p, count+1, 12)
			if e != api.OK {
				break
			}
			x := l[count]
			values, _ := instance.Values(p, x)
			for _, c := range chain {
				if !vanishes(t, c.Poly, values) {
					t.Fatalf("the chain of %v does not vanish at %v", p.Figure, values)
				}
			}
			for goal := range p.Goals {
				violates, _ := instance.Violates(p, goal, x)
				l, e := wu.Prove(p, goal)
				if e != api.OK || slices.ContainsFunc(l, func(c api.Certificate) bool { return !covers(t, c, values) }) {
					continue
				}
				met++
				if violates {
					t.Fatalf("the goal %d of %v is proved, but %v violates it", goal, p.Figure, x)
				}
			}
		}
	}
	if met < rounds {
		t.Errorf("only %d instances are covered by a proof", met)
	}
}

// vanishes reports whether p is 0 at the values.
func vanishes(t *testing.T, p api.Poly, values []api.Rat) bool {
	t.Helper()
	a, e := poly.Eval(p, values)
	if e != api.OK {
		t.Fatalf("%s has no value: %d", show([]api.Poly{p}), e)
	}
	return rational.Sign(a) == 0
}

// covers reports whether no factor of c with a power above 0 is 0 at the values.
func covers(t *testing.T, c api.Certificate, values []api.Rat) bool {
	t.Helper()
	for i, f := range c.Factors {
		if c.Powers[i] > 0 && vanishes(t, f, values) {
			return false
		}
	}
	return true
}

// R5: the certificates stay as they are if the problem is overwritten, and also if one of them is.
func TestMemory(t *testing.T) {
	p := sourceOf(t, theorems()[1])
	want, _ := wu.Prove(p, 1)
	got, e := wu.Prove(p, 1)
	if e != api.OK || len(got) != 2 {
		t.Fatalf("Prove returns %s, %d", showProof(got), e)
	}
	for _, h := range p.Hyps {
		clear(h)
	}
	clear(p.Goals[1][0])
	clear(got[0].Factors)
	clear(got[0].Powers)
	clear(got[0].Cofactors)
	if !equalCertificates(got[1], want[1]) {
		t.Errorf("the second certificate has become %s", showProof(got[1:]))
	}
}
