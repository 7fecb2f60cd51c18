package problem_test

import (
	"strconv"
	"testing"

	"geoprover/api"
	"geoprover/problem"
)

// P25.4: the example of the promise, and the smallest problems.
func TestTextExample(t *testing.T) {
	expectText(t, figureOf(t, "points A, B; prove same(A, B);"), "point A [0] [0]", "point B [v0] [0]", "goal 0 -v0", "goal 0 0")
	expectText(t, api.Figure{})
	expectText(t, figureOf(t, "points A;"), "point A [0] [0]")
	expectText(t, figure("free"), "point $0 [0] [0]")
}

// P25.4: the text of a triangle with a step of each kind.
func TestTextKinds(t *testing.T) {
	begin := []string{"point A [0] [0]", "point B [v0] [0]", "point C [v1] [v2]"}
	for step, want := range map[string][]string{
		"X := midpoint(B, C)":                             {"point X [1/2*v1 + 1/2*v0] [1/2*v2]"},
		"X := divide(B, C, -1/3)":                         {"point X [-1/3*v1 + 4/3*v0] [-1/3*v2]"},
		"X := shift(A, B, C)":                             {"point X [v1 - v0] [v2]"},
		"X := turn(C, B)":                                 {"point X [v2 + v1] [v2 - v1 + v0]"},
		"X := on(line(B, C))":                             {"point X [v1*v3 - v0*v3 + v0] [v2*v3]"},
		"X := on(circle(A, B))":                           {"point X [v4] [v5]", "hyp v3^2*v4 + v4 - v0*v3^2 + v0", "hyp v3^2*v5 + v5 + 2*v0*v3", "cond v3^2 + 1"},
		"X := foot(C, line(A, B))":                        {"point X [v3] [v4]", "hyp v0*v4", "hyp v0*v3 - v0*v1", "cond v0^2"},
		"X := mirror(C, line(A, B))":                      {"point X [v3] [v4]", "hyp v0*v3 - v0*v1", "hyp v0*v4 + v0*v2", "cond v0^2"},
		"X := meet(line(A, B), line(B, C))":               {"point X [v3] [v4]", "hyp v0*v4", "hyp v1*v4 - v0*v4 - v2*v3 + v0*v2", "cond v0*v2"},
		"X := other(A, B, C)":                             {"point X [v3] [v4]", "hyp v0^2*v3 - 2*v0^2*v1", "hyp v0^2*v4", "cond v0^2"},
		"X := center(A, B, C)":                            {"point X [v3] [v4]", "hyp 2*v0*v3 - v0^2", "hyp 2*v2*v4 + 2*v1*v3 - v2^2 - v1^2", "cond v0*v2"},
		"X := cut(line(A, B), circle(C, A))":              {"point X [v3] [v4]", "hyp v0*v4", "hyp v4^2 - 2*v2*v4 + v3^2 - 2*v1*v3", "cond v0^2"},
		"X := cross(circle(A, B), circle(B, C))":          {"point X [v3] [v4]", "hyp v4^2 + v3^2 - v0^2", "hyp v4^2 + v3^2 - 2*v0*v3 - v2^2 - v1^2 + 2*v0*v1", "cond v0^2"},
		"X := apex(A, B)":                                 {"point X [v3] [v4]", "hyp v4^2 + v3^2 - v0^2", "hyp v4^2 + v3^2 - 2*v0*v3", "cond v0^2"},
		"X := foot(C, line(A, A))":                        {"point X [v3] [v4]", "hyp 0", "hyp 0", "cond 0"},
		"points X":                                        {"point X [v3] [v4]"},
		"line l := bisector(A, B)":                        {"point $3 [1/2*v0] [0]", "point $4 [1/2*v0] [v0]"},
		"X := midpoint(midpoint(A, B), C)":                {"point $3 [1/2*v0] [0]", "point X [1/2*v1 + 1/4*v0] [1/2*v2]"},
		"circle c := circum(A, A, A); points X":           {"point $3 [v3] [v4]", "point X [v5] [v6]", "hyp 0", "hyp 0", "cond 0"},
		"prove same(A, A); prove same(midpoint(A, B), C)": {"point $3 [1/2*v0] [0]", "goal 0 0", "goal 0 0", "goal 1 -v1 + 1/2*v0", "goal 1 -v2"},
	} {
		expectText(t, figureOf(t, "points A, B, C; "+step+";"), append(begin[:3:3], want...)...)
	}
}

// P25.4: all parts, in the order of the chapter, with several steps and goals.
func TestTextOrder(t *testing.T) {
	expectText(t, figure("free:A, free, oncircle 0 1:C, apex 1 0, free:E2 | midpoint 4 0 1, collinear 0 1 1, same 1 4, perpendicular 0 1 0 4"),
		"point A [0] [0]", "point $1 [v0] [0]", "point C [v2] [v3]", "point $3 [v4] [v5]", "point E2 [v6] [v7]",
		"hyp v1^2*v2 + v2 - v0*v1^2 + v0", "hyp v1^2*v3 + v3 + 2*v0*v1", "hyp v5^2 + v4^2 - 2*v0*v4", "hyp v5^2 + v4^2 - v0^2",
		"cond v1^2 + 1", "cond v0^2",
		"goal 0 -2*v6 + v0", "goal 0 -2*v7", "goal 1 0", "goal 2 -v6 + v0", "goal 2 -v7", "goal 3 v0*v6")
	var want []string
	for i := range 40 {
		want = append(want, "point $"+strconv.Itoa(i)+" [0] [0]")
	}
	for i := range 8 {
		want = append(want, "goal "+strconv.Itoa(i)+" 0")
	}
	expectText(t, figure("free, "+many("shift 0 0 0", 39)+" | "+many("collinear 0 0 0", 8)), want...)
}

// P25.4: numbers of any length.
func TestTextLongNumbers(t *testing.T) {
	f := figure("free, free, divide 0 1 =-123456789012345678901234567890/17:X | ratio 0 1 0 1 =98765432109876543210")
	expectText(t, f, "point $0 [0] [0]", "point $1 [v0] [0]", "point X [-123456789012345678901234567890/17*v0] [0]", "goal 0 -98765432109876543209*v0^2")
}

// Text is not specified for problems that are not right, but it returns nothing with an error.
func TestTextOfWrong(t *testing.T) {
	for name, change := range map[string]func(p *api.Problem){
		"a point too many":         func(p *api.Problem) { p.Frame.Coords = append(p.Frame.Coords, api.Coord{}) },
		"a point too few":          func(p *api.Problem) { p.Frame.Coords = p.Frame.Coords[1:] },
		"a step too few":           func(p *api.Problem) { p.Figure.Steps = nil },
		"an unknown variable":      func(p *api.Problem) { p.Hyps[1] = read("v63 + v0") },
		"no variables":             func(p *api.Problem) { p.Frame.Vars = nil },
		"an invalid hypothesis":    func(p *api.Problem) { p.Hyps[0][0].Coef = api.Rat{} },
		"an invalid condition":     func(p *api.Problem) { p.Conds[0][0].Mono = api.Mono{0} },
		"an invalid goal":          func(p *api.Problem) { p.Goals[1] = []api.Poly{{{}}} },
		"an invalid coordinate":    func(p *api.Problem) { p.Frame.Coords[2].Y = api.Poly{{}} },
		"an invalid first product": func(p *api.Problem) { p.Frame.Coords[0].X = api.Poly{{}} },
	} {
		p := sample(t)
		change(&p)
		if s, e := problem.Text(p); s != "" || e == api.OK {
			t.Errorf("%s: the text is %q, %d", name, s, e)
		}
	}
}
