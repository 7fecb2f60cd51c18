package lower_test

import (
	"slices"
	"strconv"
	"strings"
	"testing"

	"geoprover/api"
	"geoprover/ast"
	"geoprover/lower"
	"geoprover/rational"
	"geoprover/scope"
)

// P20.2: the examples of the chapter.
func TestFigureExamples(t *testing.T) {
	expectFigure(t, "points A, B, C; D := foot(A, bisector(B, C));", "free:A, free:B, free:C, divide 1 2 1/2, turn 3 1 2, foot 0 3 4:D | ")
	expectFigure(t, "points A, B, C; line l := parallel(A, line(B, C)); D := meet(l, line(B, C));", "free:A, free:B, free:C, shift 0 1 2, meet 0 3 1 2:D | ")
	expectFigure(t, "points A, B, C; circle c := circum(A, B, C); P := on(c);", "free:A, free:B, free:C, center 0 1 2, oncircle 3 0:P | ")
	expectFigure(t, "points A, B, C; M := midpoint(midpoint(A, B), C);", "free:A, free:B, free:C, divide 0 1 1/2, divide 3 2 1/2:M | ")
	expectFigure(t, "points A, B, C, D, E, F; prove angle(A, B, C, D, E, F);", "free:A, free:B, free:C, free:D, free:E, free:F | angle 1 0 1 2 4 3 4 5")
	expectFigure(t, "points A, B, C; prove collinear(A, B, midpoint(A, C));", "free:A, free:B, free:C, divide 0 2 1/2 | collinear 0 1 3")
}

// P20.2: the empty program.
func TestFigureOfNothing(t *testing.T) {
	for _, p := range []api.Program{{}, {Stmts: []api.Stmt{}}} {
		if f, at, e := lower.Figure(p); show(f) != " | " || at != 0 || e != api.OK {
			t.Errorf("Figure of the empty program is %s, %d, %d", show(f), at, e)
		}
	}
}

// example is a row of the table of constructions: an expression; with the points A, B, C, D (0 to 3) the steps that it appends; and the points that it yields.
type example struct{ text, steps, yields string }

// pointRows returns constructions of points with names of points, and with lines and circles that append no steps.
func pointRows() []example {
	return []example{
		{"midpoint(B, C)", "divide 1 2 1/2", "4"},
		{"divide(B, C, -2/3)", "divide 1 2 -2/3", "4"},
		{"divide(B, B, 0)", "divide 1 1 0", "4"},
		{"reflect(B, C)", "divide 1 2 2", "4"},
		{"mirror(A, line(B, C))", "mirror 0 1 2", "4"},
		{"foot(A, line(B, C))", "foot 0 1 2", "4"},
		{"meet(line(B, A), line(D, C))", "meet 1 0 3 2", "4"},
		{"on(line(D, B))", "online 3 1", "4"},
		{"on(circle(D, B))", "oncircle 3 1", "4"},
		{"other(D, B, C)", "other 3 1 2", "4"},
		{"common(D, B, C)", "mirror 3 1 2", "4"},
		{"center(D, B, C)", "center 3 1 2", "4"},
		{"shift(D, B, C)", "shift 3 1 2", "4"},
		{"turn(D, B)", "turn 3 3 1", "4"},
		{"cut(line(D, B), circle(A, C))", "cut 3 1 0 2", "4"},
		{"cross(circle(D, B), circle(A, C))", "cross 3 1 0 2", "4"},
		{"apex(D, B)", "apex 3 1", "4"},
	}
}

// lineRows returns constructions of lines.
func lineRows() []example {
	return []example{
		{"line(B, D)", "", "1 3"},
		{"parallel(D, line(B, C))", "shift 3 1 2", "3 4"},
		{"perpendicular(D, line(B, C))", "turn 3 1 2", "3 4"},
		{"bisector(D, B)", "divide 3 1 1/2, turn 4 3 1", "4 5"},
		{"parallel(A, perpendicular(D, line(B, C)))", "turn 3 1 2, shift 0 3 4", "0 5"},
		{"perpendicular(A, bisector(B, C))", "divide 1 2 1/2, turn 4 1 2, turn 0 4 5", "0 6"},
		{"line(apex(A, B), turn(C, D))", "apex 0 1, turn 2 2 3", "4 5"},
	}
}

// circleRows returns constructions of circles.
func circleRows() []example {
	return []example{
		{"circle(D, B)", "", "3 1"},
		{"circum(D, B, C)", "center 3 1 2", "4 3"},
		{"circum(A, on(line(C, D)), B)", "online 2 3, center 0 4 1", "5 0"},
		{"circle(apex(A, B), apex(A, B))", "apex 0 1, apex 0 1", "4 5"}, // the same steps twice
	}
}

// before is the begin of a program with four points, and their steps.
const (
	before      = "points A, B, C, D; "
	beforeSteps = "free:A, free:B, free:C, free:D"
)

// join returns a list of the steps in several lists, some of which may be empty.
func join(steps ...string) string {
	steps = slices.DeleteFunc(steps, func(s string) bool { return s == "" })
	return strings.Join(steps, ", ")
}

// P20.2: each construction of a point as a statement: its own step has the name.
func TestFigurePoints(t *testing.T) {
	for _, x := range pointRows() {
		expectFigure(t, before+"X := "+x.text+";", join(beforeSteps, x.steps+":X")+" | ")
		expectFigure(t, before+"X := "+x.text+"; prove same(X, A);", join(beforeSteps, x.steps+":X")+" | same "+x.yields+" 0")
	}
}

// P20.2: each construction of a point as an argument: its step is a helper.
func TestFigurePointArguments(t *testing.T) {
	for _, x := range pointRows() {
		expectFigure(t, before+"X := apex("+x.text+", A);", join(beforeSteps, x.steps, "apex 4 0:X")+" | ")
		expectFigure(t, before+"X := apex(A, "+x.text+");", join(beforeSteps, x.steps, "apex 0 4:X")+" | ")
		expectFigure(t, before+"prove same(B, "+x.text+");", join(beforeSteps, x.steps)+" | same 1 4")
	}
}

// P20.2: each construction of a line or a circle, with a name and as an argument.
func TestFigureLinesAndCircles(t *testing.T) {
	for _, x := range lineRows() {
		next := strconv.Itoa(4 + len(split(x.steps)))
		expectFigure(t, before+"line l := "+x.text+";", join(beforeSteps, x.steps)+" | ")
		for _, s := range []string{"line l := " + x.text + "; X := on(l);", "X := on(" + x.text + ");"} {
			expectFigure(t, before+s, join(beforeSteps, x.steps, "online "+x.yields+":X")+" | ")
		}
		expectFigure(t, before+"line l := "+x.text+"; line m := parallel(A, l); X := meet(m, l);",
			join(beforeSteps, x.steps, "shift 0 "+x.yields, "meet 0 "+next+" "+x.yields+":X")+" | ")
		for _, s := range []string{"line l := " + x.text + "; prove parallel(line(A, B), l);", "prove parallel(line(A, B), " + x.text + ");"} {
			expectFigure(t, before+s, join(beforeSteps, x.steps)+" | parallel 0 1 "+x.yields)
		}
	}
	for _, x := range circleRows() {
		expectFigure(t, before+"circle c := "+x.text+";", join(beforeSteps, x.steps)+" | ")
		for _, s := range []string{"circle c := " + x.text + "; X := on(c);", "X := on(" + x.text + ");"} {
			expectFigure(t, before+s, join(beforeSteps, x.steps, "oncircle "+x.yields+":X")+" | ")
		}
		for _, s := range []string{"circle c := " + x.text + "; X := cut(line(A, B), c);", "X := cut(line(A, B), " + x.text + ");"} {
			expectFigure(t, before+s, join(beforeSteps, x.steps, "cut 0 1 "+x.yields+":X")+" | ")
		}
		expectFigure(t, before+"circle c := "+x.text+"; X := cross(c, c);", join(beforeSteps, x.steps, "cross "+x.yields+" "+x.yields+":X")+" | ")
	}
}

// P20.2: the arguments are translated from left to right, each with all of its steps.
func TestFigureOrder(t *testing.T) {
	expectFigure(t, before+"X := meet(parallel(A, line(B, C)), bisector(C, D));", join(beforeSteps, "shift 0 1 2, divide 2 3 1/2, turn 5 2 3, meet 0 4 5 6:X")+" | ")
	expectFigure(t, before+"X := cross(circum(A, B, C), circle(D, apex(A, B)));", join(beforeSteps, "center 0 1 2, apex 0 1, cross 4 0 3 5:X")+" | ")
	expectFigure(t, before+"X := foot(apex(turn(A, B), turn(C, D)), line(on(line(A, B)), D));", join(beforeSteps, "turn 0 0 1, turn 2 2 3, apex 4 5, online 0 1, foot 6 7 3:X")+" | ")
	expectFigure(t, before+"X := turn(apex(A, B), apex(C, D));", join(beforeSteps, "apex 0 1, apex 2 3, turn 4 4 5:X")+" | ")
	expectFigure(t, before+"line l := bisector(apex(A, B), apex(C, D)); prove perpendicular(l, line(A, B));", join(beforeSteps, "apex 0 1, apex 2 3, divide 4 5 1/2, turn 6 4 5")+" | perpendicular 6 7 0 1")
}

// P20.2: an expression that occurs twice appends its steps twice; a name only stands for what its definition has yielded.
func TestFigureTwice(t *testing.T) {
	expectFigure(t, before+"X := apex(A, B); Y := apex(A, B);", join(beforeSteps, "apex 0 1:X, apex 0 1:Y")+" | ")
	expectFigure(t, before+"X := midpoint(center(A, B, C), center(A, B, C));", join(beforeSteps, "center 0 1 2, center 0 1 2, divide 4 5 1/2:X")+" | ")
	expectFigure(t, before+"circle c := circum(A, B, C); X := cut(line(A, D), c); Y := on(c); prove concyclic(X, Y, A, B);",
		join(beforeSteps, "center 0 1 2, cut 0 3 4 0:X, oncircle 4 0:Y")+" | concyclic 5 6 0 1")
	expectFigure(t, before+"prove same(apex(A, B), apex(A, B)); prove same(apex(A, B), A);", join(beforeSteps, "apex 0 1, apex 0 1, apex 0 1")+" | same 4 5, same 6 0")
}

// P20.2: free points that come later, and names of lines and circles that look like those of others.
func TestFigureNames(t *testing.T) {
	expectFigure(t, "points B, A; X := apex(A, B); points C; Y := midpoint(C, X); prove collinear(B, C, Y);", "free:B, free:A, apex 1 0:X, free:C, divide 3 2 1/2:Y | collinear 0 3 4")
	expectFigure(t, "points A; line l := line(A, A); circle a := circle(A, A); X := cut(l, a);", "free:A, cut 0 0 0 0:X | ")
	expectFigure(t, "points P, Q; line c := bisector(P, Q); circle l := circle(P, Q); X := on(c); Y := on(l);", "free:P, free:Q, divide 0 1 1/2, turn 2 0 1, online 2 3:X, oncircle 0 1:Y | ")
}

// P20.2: each kind of goals.
func TestFigureGoals(t *testing.T) {
	for s, want := range map[string]string{
		"collinear(D, B, A)":                                      "collinear 3 1 0",
		"parallel(line(D, B), line(A, C))":                        "parallel 3 1 0 2",
		"perpendicular(line(D, B), line(A, C))":                   "perpendicular 3 1 0 2",
		"congruent(D, B, A, C)":                                   "congruent 3 1 0 2",
		"midpoint(D, B, A)":                                       "midpoint 3 1 0",
		"concyclic(D, B, A, C)":                                   "concyclic 3 1 0 2",
		"angle(A, B, C, D, C, B)":                                 "angle 1 0 1 2 2 3 2 1",
		"angle(A, A, B, B, C, D)":                                 "angle 0 0 0 1 2 1 2 3",
		"same(D, A)":                                              "same 3 0",
		"ratio(D, B, A, C, 2)":                                    "ratio 3 1 0 2 2",
		"ratio(D, B, A, C, -4/6)":                                 "ratio 3 1 0 2 -2/3",
		"ratio(D, B, A, C, 0)":                                    "ratio 3 1 0 2 0",
		"midpoint(midpoint(A, B), A, B)":                          "midpoint 4 0 1",
		"parallel(parallel(A, line(B, C)), line(B, C))":           "parallel 0 4 1 2",
		"angle(A, B, apex(A, B), C, D, apex(C, D))":               "angle 1 0 1 4 3 2 3 5",
		"perpendicular(perpendicular(A, line(B, C)), line(B, C))": "perpendicular 0 4 1 2",
	} {
		f := figureOf(t, before+"prove "+s+";")
		if got := strings.SplitAfter(show(f), " | ")[1]; got != want {
			t.Errorf("the goal of %s is %s, want %s", s, got, want)
		}
	}
	expectFigure(t, before+"prove same(A, B); X := apex(A, B); prove same(X, B); prove same(A, C);", join(beforeSteps, "apex 0 1:X")+" | same 0 1, same 4 1, same 0 2")
}

// P20.2: the errors of scope.Check, which come before all others.
func TestFigureScope(t *testing.T) {
	for s, want := range map[string]struct {
		at int
		e  api.Errno
	}{
		"C := apex(A, B);":                                      {0, api.ErrName},
		"points A; points B, A;":                                {1, api.ErrTwice},
		"points A, B; prove same(A, B); C := foot(A, B);":       {2, api.ErrKind},
		freePoints(41) + "points A; points A;":                  {2, api.ErrTwice},
		freePoints(41) + "prove same(A, P0);":                   {1, api.ErrName},
		freePoints(2) + sames(9) + "circle c := circle(P0, X);": {10, api.ErrName},
	} {
		expectFigureError(t, programOf(t, s), want.at, want.e)
	}
	expectFigureError(t, api.Program{Stmts: []api.Stmt{{Kind: api.StPoints, Names: []string{"A"}}, {}}}, 1, api.ErrKind)
	expectFigureError(t, api.Program{Stmts: []api.Stmt{{Kind: api.StPoints}}}, 0, api.ErrArg)
	expectFigureError(t, api.Program{Stmts: []api.Stmt{{Kind: api.StPoints, Names: []string{"on"}}}}, 0, api.ErrName)
	deep := api.Expr{Kind: api.ExName, Name: "A"}
	for range api.MaxDepth {
		deep = api.Expr{Kind: api.ExApex, Args: []api.Expr{{Kind: api.ExName, Name: "A"}, deep}}
	}
	expectFigureError(t, api.Program{Stmts: []api.Stmt{{Kind: api.StPoints, Names: []string{"A"}}, {Kind: api.StPoint, Names: []string{"B"}, Expr: deep}}}, 1, api.ErrLarge)
}

// freePoints returns a statement with n free points, P0 and so on.
func freePoints(n int) string {
	var l []string
	for i := range n {
		l = append(l, "P"+strconv.Itoa(i))
	}
	return "points " + strings.Join(l, ", ") + "; "
}

// sames returns n goals.
func sames(n int) string { return strings.Repeat("prove same(P0, P1); ", n) }

// P20.2: MaxPoints points, and one more, in each kind of statements.
func TestFigureMaxPoints(t *testing.T) {
	for _, x := range []struct {
		stmt  string
		steps int
	}{
		{"points X;", 1}, {"points X, Y, Z;", 3}, {"X := apex(P0, P1);", 1}, {"X := apex(P0, apex(P0, P1));", 2}, {"X := foot(P0, bisector(P0, P1));", 3},
		{"line l := parallel(P0, line(P0, P1));", 1}, {"line l := bisector(P0, P1);", 2}, {"circle c := circum(P0, P1, P1);", 1}, {"circle c := circum(P0, P1, apex(P0, P1));", 2},
		{"prove same(P0, apex(P0, P1));", 1}, {"prove parallel(bisector(P0, P1), bisector(P0, P1));", 4},
	} {
		s := freePoints(api.MaxPoints-x.steps) + x.stmt
		if f := figureOf(t, s); len(f.Steps) != api.MaxPoints {
			t.Errorf("%s has %d points", s, len(f.Steps))
		}
		figureOf(t, s+" line m := line(P0, P1); circle d := circle(P0, P1); prove parallel(m, line(P1, P0));") // statements without steps
		s = freePoints(api.MaxPoints-x.steps+1) + x.stmt
		expectFigureError(t, programOf(t, s), 1, api.ErrLarge)
		expectFigureError(t, programOf(t, s+" "+sames(9)), 1, api.ErrLarge)
		expectFigureError(t, programOf(t, freePoints(api.MaxPoints-x.steps+1)+"line k := line(P0, P0); "+x.stmt), 2, api.ErrLarge)
	}
	figureOf(t, freePoints(api.MaxPoints))
	expectFigureError(t, programOf(t, freePoints(api.MaxPoints+1)), 0, api.ErrLarge)
	expectFigureError(t, programOf(t, freePoints(3000)+" prove same(P0, P1);"), 0, api.ErrLarge)
	expectFigureError(t, programOf(t, freePoints(api.MaxPoints)+"prove same(P0, P1); X := apex(P0, P1); Y := apex(P0, P1);"), 2, api.ErrLarge)
}

// P20.2: many more than MaxPoints points in one statement.
func TestFigureManyPoints(t *testing.T) {
	x := "P0"
	for range 10 {
		x = "apex(" + x + ", " + x + ")"
	}
	expectFigureError(t, programOf(t, freePoints(2)+"X := "+x+"; prove same(X, X);"), 1, api.ErrLarge)
	expectFigureError(t, programOf(t, freePoints(2)+"line l := line("+x+", P1); X := on(l);"), 1, api.ErrLarge)
	expectFigureError(t, programOf(t, freePoints(2)+"prove same("+x+", P1);"), 1, api.ErrLarge)
}

// P20.2: MaxGoals goals, and one more.
func TestFigureMaxGoals(t *testing.T) {
	if f := figureOf(t, freePoints(2)+sames(api.MaxGoals)); len(f.Goals) != api.MaxGoals {
		t.Errorf("there are %d goals", len(f.Goals))
	}
	figureOf(t, freePoints(2)+sames(api.MaxGoals)+"X := apex(P0, P1);")
	expectFigureError(t, programOf(t, freePoints(2)+sames(api.MaxGoals+1)), api.MaxGoals+1, api.ErrLarge)
	expectFigureError(t, programOf(t, freePoints(2)+sames(api.MaxGoals)+"X := apex(P0, P1); "+sames(3)), api.MaxGoals+2, api.ErrLarge)
	expectFigureError(t, programOf(t, freePoints(2)+sames(api.MaxGoals)+"prove same(P0, P1); "+strings.ReplaceAll(freePoints(50), "P", "Q")), api.MaxGoals+1, api.ErrLarge)
}

// templates returns for each kind of constructions the steps that it appends, and what it yields or the goal that it is: a to f stand for its numbers, r for its Ratio, and x and y for the points of these steps. On a circle, on is a kind of its own.
func templates() map[string][2]string {
	return map[string][2]string{
		"midpoint 1": {"divide a b 1/2", "x"}, "divide 1": {"divide a b r", "x"}, "reflect 1": {"divide a b 2", "x"},
		"mirror 1": {"mirror a b c", "x"}, "foot 1": {"foot a b c", "x"}, "meet 1": {"meet a b c d", "x"},
		"on 1": {"online a b", "x"}, "on circle": {"oncircle a b", "x"}, "other 1": {"other a b c", "x"}, "common 1": {"mirror a b c", "x"},
		"center 1": {"center a b c", "x"}, "shift 1": {"shift a b c", "x"}, "turn 1": {"turn a a b", "x"},
		"cut 1": {"cut a b c d", "x"}, "cross 1": {"cross a b c d", "x"}, "apex 1": {"apex a b", "x"},
		"line 2": {"", "a b"}, "parallel 2": {"shift a b c", "a x"}, "perpendicular 2": {"turn a b c", "a x"}, "bisector 2": {"divide a b 1/2, turn x a b", "x y"},
		"circle 3": {"", "a b"}, "circum 3": {"center a b c", "x a"},
		"collinear 4": {"", "collinear a b c"}, "parallel 4": {"", "parallel a b c d"}, "perpendicular 4": {"", "perpendicular a b c d"},
		"congruent 4": {"", "congruent a b c d"}, "midpoint 4": {"", "midpoint a b c"}, "concyclic 4": {"", "concyclic a b c d"},
		"angle 4": {"", "angle b a b c e d e f"}, "same 4": {"", "same a b"}, "ratio 4": {"", "ratio a b c d r"},
	}
}

// model translates programs with the templates.
type model struct {
	templates map[string][2]string
	steps     []string
	goals     []string
	yields    map[string]string
	circles   map[string]bool
}

// expr returns what an expression yields, or the goal that it is. The last step has the name point if that is not empty.
func (m *model) expr(x api.Expr, point string) string {
	if x.Kind == api.ExName {
		return m.yields[x.Name]
	}
	var numbers []string
	for _, a := range x.Args {
		numbers = append(numbers, strings.Fields(m.expr(a, ""))...)
	}
	values := map[string]string{"r": rational.Text(x.Ratio), "x": strconv.Itoa(len(m.steps)), "y": strconv.Itoa(len(m.steps) + 1)}
	for i, n := range numbers {
		values["abcdef"[i:i+1]] = n
	}
	template := m.templates[m.key(x)]
	for _, s := range split(template[0]) {
		m.steps = append(m.steps, fill(s, values))
	}
	if point != "" {
		m.steps[len(m.steps)-1] += ":" + point
	}
	return fill(template[1], values)
}

// key returns the key of the template of a construction.
func (m *model) key(x api.Expr) string {
	if x.Kind == api.ExOn {
		if a := x.Args[0]; m.circles[a.Name] || ast.Sort(a.Kind) == api.SortCircle {
			return "on circle"
		}
	}
	return ast.Word(x.Kind) + " " + strconv.Itoa(ast.Sort(x.Kind))
}

// fill returns a text in which the words that are keys of values are replaced.
func fill(s string, values map[string]string) string {
	words := strings.Fields(s)
	for i, word := range words {
		if value, found := values[word]; found {
			words[i] = value
		}
	}
	return strings.Join(words, " ")
}

// stmt translates a statement.
func (m *model) stmt(s api.Stmt) {
	switch s.Kind {
	case api.StPoints:
		for _, name := range s.Names {
			m.yields[name] = strconv.Itoa(len(m.steps))
			m.steps = append(m.steps, "free:"+name)
		}
	case api.StPoint:
		m.yields[s.Names[0]] = m.expr(s.Expr, s.Names[0])
	case api.StProve:
		m.goals = append(m.goals, m.expr(s.Expr, ""))
	default:
		m.yields[s.Names[0]] = m.expr(s.Expr, "")
		m.circles[s.Names[0]] = s.Kind == api.StCircle
	}
}

// P20.2: random programs.
func TestFigureRandom(t *testing.T) {
	r, large := newSource(), 0
	for range 2 * rounds {
		p := randomProgram(r, 10+40*r.Intn(2))
		if at, e := scope.Check(p); e != api.OK {
			t.Fatalf("Check of %q returns %d, %d", textOf(t, p), at, e)
		}
		m, at := model{templates: templates(), yields: map[string]string{}, circles: map[string]bool{}}, -1
		for i, s := range p.Stmts {
			m.stmt(s)
			if at < 0 && (len(m.steps) > api.MaxPoints || len(m.goals) > api.MaxGoals) {
				at = i
			}
		}
		if at >= 0 {
			large++
			expectFigureError(t, p, at, api.ErrLarge)
			continue
		}
		expectFigure(t, textOf(t, p), strings.Join(m.steps, ", ")+" | "+strings.Join(m.goals, ", "))
	}
	if large < rounds/20 || large > rounds {
		t.Errorf("%d of %d figures are too large", large, 2*rounds)
	}
}
