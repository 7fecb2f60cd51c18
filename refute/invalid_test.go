package refute_test

import (
	"testing"

	"geoprover/api"
	"geoprover/poly"
	"geoprover/refute"
)

// R1, rule 4 of LANGUAGE.md: problems that are not right give some result, without a panic.
func TestInvalidProblems(t *testing.T) {
	goals := [][]api.Poly{{poly.Var(0)}, nil, {poly.Var(63), poly.Var(1)}, {{{Mono: api.Mono{-1, 0}}}}}
	for _, l := range wrong() {
		for _, s := range l {
			p := api.Problem{Figure: figure(s), Goals: goals, Hyps: goals[2]}
			for goal := range goals {
				expectError(t, p, goal, 100, api.ErrNone)
			}
			expectNoSample(t, p, 1, 100, api.ErrNone)
			expectNoSample(t, p, 1, -1, api.ErrRange)
			expectSample(t, p, 0, 100, nil)
		}
	}
	right := makeOf(t, figure("free, free, oncircle 0 1, online 1 2, foot 3 0 1 | same 0 1, collinear 0 1 2"))
	for name, change := range map[string]func(p *api.Problem){
		"no parts":                  func(p *api.Problem) { *p = api.Problem{Figure: p.Figure} },
		"no coordinates":            func(p *api.Problem) { p.Frame.Coords = nil },
		"no variables":              func(p *api.Problem) { p.Frame.Vars = nil },
		"a variable of no step":     func(p *api.Problem) { p.Frame.Vars = []api.Var{{}, {Kind: 1, Step: 99}, {Kind: 2, Step: -5}} },
		"an unknown hypothesis":     func(p *api.Problem) { p.Hyps = goals[2] },
		"a hypothesis with no sign": func(p *api.Problem) { p.Hyps = goals[3] },
		"other goals":               func(p *api.Problem) { p.Goals = goals },
		"another figure":            func(p *api.Problem) { p.Figure = figure("free, free, free, apex 0 1") },
	} {
		p := right
		change(&p)
		for goal := range 5 {
			if x, tries, e := refute.Search(p, goal, 200); e != api.OK && (!isZero(x) || tries != 0) {
				t.Errorf("Search of a problem with %s returns %s, %d, %d", name, showInstance(x), tries, e)
			}
		}
		if l, e := refute.Sample(p, 2, 200); e != api.OK && len(l) > 0 {
			t.Errorf("Sample of a problem with %s returns %s, %d", name, showAll(l), e)
		}
	}
}
