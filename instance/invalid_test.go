package instance_test

import (
	"testing"

	"geoprover/api"
	"geoprover/instance"
	"geoprover/poly"
)

// R1, rule 4 of LANGUAGE.md: instances whose numbers are not valid give some result.
func TestInvalidNumbers(t *testing.T) {
	f := figure("free:A, free, free, divide 0 1 =1/2, shift 0 1 2, turn 0 1 2, online 1 2, oncircle 0 1, foot 2 0 1, other 0 1 2, center 0 1 2, cut 0 1 2 0, cross 0 2 1 2 | collinear 0 1 2, same 3 4")
	p := makeOf(t, f)
	for _, a := range []api.Rat{{}, {Num: api.Int{Neg: true}}, {Den: api.Nat{0}}, {Num: api.Int{Abs: api.Nat{2, 0}}, Den: api.Nat{4, 0, 0}}, {Num: api.Int{Neg: true}, Den: api.Nat{1}}, {Num: api.Int{Abs: api.Nat{1}}}} {
		values := make([]api.Rat, 5)
		for i := range values {
			values[i] = a
		}
		instance.At(f, values, signs("++"))
		instance.At(f, append(numbers("4 1 3 2"), a), signs("+-"))
		x := api.Instance{Values: values, Points: make([]api.Point, len(f.Steps))}
		for i := range x.Points {
			x.Points[i] = api.Point{X: a, Y: a}
		}
		instance.Values(p, x)
		instance.Satisfies(p, x)
		instance.Violates(p, 0, x)
		instance.Violates(p, 1, x)
		instance.Text(f, x)
	}
}

// R1, rule 4 of LANGUAGE.md: problems that are not right give some result.
func TestInvalidProblems(t *testing.T) {
	f := figure("free, free, oncircle 0 1, online 1 2, foot 3 0 1 | same 0 1, collinear 0 1 2")
	x := atOf(t, f, numbers("4 1 -2"), nil)
	for name, change := range map[string]func(p *api.Problem){
		"no coordinates":               func(p *api.Problem) { p.Frame.Coords = nil },
		"coordinates too many":         func(p *api.Problem) { p.Frame.Coords = append(p.Frame.Coords, api.Coord{}, api.Coord{}) },
		"an unknown variable":          func(p *api.Problem) { p.Frame.Coords[1].X = poly.Var(63) },
		"an unknown second variable":   func(p *api.Problem) { p.Frame.Coords[3].Y = poly.Var(63) },
		"an unknown hypothesis":        func(p *api.Problem) { p.Hyps[1] = poly.Var(40) },
		"no variables":                 func(p *api.Problem) { p.Frame.Vars = nil },
		"a variable of no step":        func(p *api.Problem) { p.Frame.Vars[2].Step = 5 },
		"a variable of a step below 0": func(p *api.Problem) { p.Frame.Vars[3].Step = -1 },
		"a first dependent variable":   func(p *api.Problem) { p.Frame.Vars[0].Kind = api.VarDependent },
		"variables of no kind":         func(p *api.Problem) { p.Frame.Vars[1].Kind = 0 },
		"parameters alone": func(p *api.Problem) {
			for i := range p.Frame.Vars {
				p.Frame.Vars[i].Kind = api.VarParam
			}
		},
		"no goals": func(p *api.Problem) { p.Goals = nil },
	} {
		p := makeOf(t, f)
		change(&p)
		for n := range 9 {
			y := x
			y.Values = numbers("1 2 3 4 5 6 7 8")[:n]
			l, e := instance.Values(p, y)
			if e != api.OK && len(l) > 0 {
				t.Errorf("Values of a problem with %s returns %s and the error %d", name, showNumbers(l), e)
			}
			if ok, e := instance.Satisfies(p, y); e != api.OK && ok {
				t.Errorf("Satisfies of a problem with %s returns true and the error %d", name, e)
			}
			for goal := range 3 {
				if ok, e := instance.Violates(p, goal, y); e != api.OK && ok {
					t.Errorf("Violates of a problem with %s returns true and the error %d", name, e)
				}
			}
		}
	}
}
