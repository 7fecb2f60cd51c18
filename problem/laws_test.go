package problem_test

import (
	"testing"

	"geoprover/api"
	"geoprover/problem"
)

// P25.5: random figures with other goals.
func TestGoalsDoNotMatter(t *testing.T) {
	r := newSource()
	for range rounds {
		f := randomFigure(r, 6)
		p := makeOf(t, f)
		for range 3 {
			g := api.Figure{Steps: f.Steps}
			for range r.Intn(api.MaxGoals + 1) {
				g.Goals = append(g.Goals, randomFact(r, len(f.Steps)))
			}
			q := makeOf(t, g)
			if !samePolys(p.Hyps, q.Hyps) || !samePolys(p.Conds, q.Conds) {
				t.Fatalf("the polynomials of %v are others with the goals %v", f, g.Goals)
			}
			q.Figure.Goals, q.Goals = p.Figure.Goals, p.Goals
			if !problem.Equal(p, q) || !problem.Right(q) {
				t.Fatalf("another part of the problem of %v depends on its goals", f)
			}
		}
	}
}

// P25.6: all beginnings of random figures.
func TestBeginnings(t *testing.T) {
	r := newSource()
	for range rounds {
		f := randomFigure(r, 7)
		p := makeOf(t, f)
		hyps, conds := 0, 0
		for k := range len(f.Steps) + 1 {
			q := makeOf(t, api.Figure{Steps: f.Steps[:k]})
			if k > 0 { // a step has no or two hypotheses, and no or one condition
				step := f.Steps[k-1].Kind
				if step > api.StepOnLine {
					hyps, conds = hyps+2, conds+1
				}
			}
			if len(q.Hyps) != hyps || len(q.Conds) != conds || !samePolys(q.Hyps, p.Hyps[:hyps]) || !samePolys(q.Conds, p.Conds[:conds]) {
				t.Fatalf("the first %d steps of %v have the hypotheses %s and the conditions %s", k, f, show(q.Hyps...), show(q.Conds...))
			}
		}
		if len(p.Hyps) != hyps || len(p.Conds) != conds {
			t.Fatalf("%v has %d hypotheses and %d conditions", f, len(p.Hyps), len(p.Conds))
		}
	}
}

// P25.1: the problem stays as it is if its figure is overwritten.
func TestMemory(t *testing.T) {
	f := sample(t).Figure
	p := makeOf(t, f)
	before, e := problem.Text(p)
	if e != api.OK {
		t.Fatal(e)
	}
	for i := range f.Steps {
		f.Steps[i].Point = ""
		clear(f.Steps[i].Args)
		clear(f.Steps[i].Ratio.Den)
	}
	clear(f.Goals[0].Args)
	clear(f.Goals)
	if after, _ := problem.Text(p); after != before || !problem.Right(p) {
		t.Errorf("the text of the problem has become\n%s", after)
	}
	if !problem.Equal(p, sample(t)) {
		t.Error("the problem has changed")
	}
}
