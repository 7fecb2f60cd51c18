package lower_test

import (
	"slices"
	"testing"

	"geoprover/api"
	"geoprover/lower"
	"geoprover/scope"
)

// P20.5
func TestValidFigures(t *testing.T) {
	r, count := newSource(), 0
	for range rounds {
		p := randomProgram(r, 12)
		f, _, e := lower.Figure(p)
		if e != api.OK {
			continue
		}
		count++
		expectRight(t, f, api.OK)
		var points []string
		for _, s := range f.Steps {
			if s.Point != "" {
				points = append(points, s.Point)
			}
		}
		if want := scope.Defined(p, api.SortPoint); !slices.Equal(points, want) {
			t.Fatalf("the points of %q are %v, want %v", textOf(t, p), points, want)
		}
		goals := 0
		for _, s := range p.Stmts {
			if s.Kind == api.StProve {
				goals++
			}
		}
		if len(f.Goals) != goals {
			t.Fatalf("%q has %d goals, want %d", textOf(t, p), len(f.Goals), goals)
		}
	}
	if count < rounds/2 {
		t.Errorf("only %d figures are not too large", count)
	}
}

// P20.5: the largest figure.
func TestLargestFigure(t *testing.T) {
	f := figureOf(t, freePoints(api.MaxPoints)+sames(api.MaxGoals))
	expectRight(t, f, api.OK)
	for goal := range f.Goals {
		expectPrune(t, f, goal, "free:P0, free:P1 | same 0 1")
	}
}

// P20.6
func TestPrunedFigures(t *testing.T) {
	r, count := newSource(), 0
	for range rounds {
		f := randomFigure(t, r, 12)
		for goal := range f.Goals {
			q, e := lower.Prune(f, goal)
			if e != api.OK || len(q.Goals) != 1 {
				t.Fatalf("Prune of %s for the goal %d returns %s, %d", show(f), goal, show(q), e)
			}
			expectRight(t, q, api.OK)
			if l := lower.Needs(q, q.Goals[0].Args); len(l) != len(q.Steps) {
				t.Fatalf("only the points %v of %s are needed", l, show(q))
			}
			expectPrune(t, q, 0, show(q))
			if len(q.Steps) < len(f.Steps) {
				count++
			}
		}
	}
	if count < rounds/2 {
		t.Errorf("only %d figures become smaller", count)
	}
}

// Figures that are not valid (R2): whatever Needs and Prune return for them, they end.
func TestOtherFigures(t *testing.T) {
	r := newSource()
	for range rounds {
		f := randomFigure(t, r, 6)
		for range 1 + r.Intn(5) {
			if len(f.Steps) > 0 {
				f = damage(r, f)
			}
		}
		f.Goals = append(f.Goals, api.Fact{Kind: 50, Args: []int{-1, 0, 3, 99}})
		lower.Needs(f, []int{0, 1, 2, 5, -3})
		for goal := range f.Goals {
			lower.Prune(f, goal)
		}
	}
	loop := api.Figure{Steps: []api.Step{{Args: []int{0, 1}}, {Args: []int{1, 0, -1, 2}}}, Goals: []api.Fact{{Args: []int{1, 0, 7}}}}
	lower.Needs(loop, []int{0, 1})
	lower.Prune(loop, 0)
}
