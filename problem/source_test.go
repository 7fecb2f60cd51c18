package problem_test

import (
	"strconv"
	"strings"
	"testing"

	"geoprover/api"
	"geoprover/lower"
	"geoprover/parser"
	"geoprover/problem"
)

// P25.2: the example of the promise.
func TestSourceExample(t *testing.T) {
	p, at, e := problem.Source("points A, B; prove same(A, B);")
	if at != 0 || e != api.OK || len(p.Hyps)+len(p.Conds) != 0 || len(p.Goals) != 1 || show(p.Goals[0]...) != "-v0; 0" {
		t.Errorf("Source returns %v, %d, %d", p, at, e)
	}
}

// P25.2: the problem is that of the figure of the program.
func TestSource(t *testing.T) {
	for _, s := range []string{
		"", "# nothing", "points A;", "points A, B; C := apex(A, B); prove congruent(A, C, B, C);",
		"points A, B, C; O := center(A, B, C); prove congruent(O, B, O, C); prove congruent(O, A, O, C);",
		"points A, B, C; line l := bisector(A, B); D := meet(l, bisector(B, C)); prove congruent(D, A, D, C);",
		"points A, B, C, D; P := cut(line(A, B), circle(C, D)); Q := cross(circle(A, P), circle(D, C)); prove collinear(P, Q, midpoint(A, B));",
		"points A, B; P := on(circle(A, B)); Q := on(line(A, P)); prove ratio(A, P, B, Q, -1/2);",
	} {
		f := figureOf(t, s)
		p, at, e := problem.Source(s)
		if at != 0 || e != api.OK || !problem.Equal(p, makeOf(t, f)) || !problem.Right(p) {
			t.Errorf("Source of %q returns %v, %d, %d", s, p, at, e)
		}
	}
}

// P25.2: the errors of the parser, with their offsets.
func TestSourceSyntax(t *testing.T) {
	for s, at := range map[string]int{
		"points A B;": 9, "points A, B; M := ;": 18, "points A, B; prove line(A, B);": 19, "points A, B; M := midpoint(A, B)": 32, "$": 0,
		"points A, B;\n# a comment\nM := midpoint(A);": 40, "points A; A := A;": 15, "points A, A": 11,
	} {
		expectSource(t, s, at, api.ErrSyntax)
	}
	expectSource(t, "points A, B; M := divide(A, B, 1/0);", 33, api.ErrZero)
	expectSource(t, "points A, "+strings.Repeat("B", api.MaxName+1)+";", 10, api.ErrLarge)
	expectSource(t, "points A;"+strings.Repeat(" ", api.MaxSource), 0, api.ErrLarge)
	expectSource(t, "points A; B := divide(A, A, "+strings.Repeat("7", api.MaxDigits+1)+");", 28, api.ErrLarge)
}

// P25.2: the errors of lower.Figure, with the indices of their statements. An error of the parser in a later statement comes first.
func TestSourceFigure(t *testing.T) {
	var free []string
	for i := range api.MaxPoints {
		free = append(free, "P"+strconv.Itoa(i))
	}
	largest := "points A; line l := line(A, A); points " + strings.Join(free[1:], ", ") + ";"
	for s, want := range map[string]struct {
		at int
		e  api.Errno
	}{
		"points A, B; M := midpoint(A, C);":                      {1, api.ErrName},
		"points A, B; M := midpoint(A, B); M := midpoint(B, A);": {2, api.ErrTwice},
		"points A, A;": {0, api.ErrTwice},
		"points A, B; line l := line(A, B); M := midpoint(A, l);":                                {2, api.ErrKind},
		"points A, B; prove same(A, B); prove same(A, C);":                                       {2, api.ErrName},
		largest + "B := apex(A, A);":                                                             {3, api.ErrLarge},
		largest + "prove same(midpoint(A, A), A);":                                               {3, api.ErrLarge},
		"points A; " + strings.Repeat("prove same(A, A); ", api.MaxGoals) + "prove same(A, A);":  {9, api.ErrLarge},
		"points A; " + strings.Repeat("prove same(A, A); ", api.MaxGoals+1) + "prove same(A,B);": {10, api.ErrName},
	} {
		expectSource(t, s, want.at, want.e)
		expectSource(t, s+" :", len(s)+1, api.ErrSyntax)
	}
}

// P25.2: with the errors of Make stands 0, whatever statement they are about.
func TestSourceLarge(t *testing.T) {
	var free []string
	for i := range 34 {
		free = append(free, "P"+strconv.Itoa(i))
	}
	expectSource(t, "points A; points "+strings.Join(free, ", ")+";", 0, api.ErrLarge)
	long := "points A, B, C; X0 := on(line(A, B)); X1 := on(line(A, C)); "
	for i := range 11 {
		long += "X" + strconv.Itoa(i+2) + " := on(line(X" + strconv.Itoa(i) + ", X" + strconv.Itoa(i+1) + ")); "
	}
	expectSource(t, long+"prove perpendicular(line(X12, X11), line(X10, X9));", 0, api.ErrLarge)
	expectSource(t, long+"Y := center(X12, X11, X10);", 0, api.ErrLarge)
	if p, at, e := problem.Source(long); at != 0 || e != api.OK || len(p.Frame.Coords) != 16 {
		t.Errorf("the points alone: %d, %d", at, e)
	}
	expectSource(t, long+"prove perpendicular(line(X12, X11), line(X10, X99));", 14, api.ErrName)
}

// P25.2: sources of all lengths: the errors are those of the lower layers.
func TestSourcePrefixes(t *testing.T) {
	s := "points A1, B1, C1; O := center(A1, B1, C1);\nP1 := on(circle(O, A1)); prove angle(A1, B1, C1, A1, P1, C1); prove ratio(A1, B1, A1, P1, 1/2);"
	met := map[api.Errno]int{}
	for n := range len(s) + 1 {
		for _, source := range []string{s[:n], s[:n] + s[min(n+1, len(s)):]} {
			program, at, e := parser.Program(source)
			var f api.Figure
			if e == api.OK {
				f, at, e = lower.Figure(program)
			}
			met[e]++
			if e != api.OK {
				expectSource(t, source, at, e)
				continue
			}
			p, at, e := problem.Source(source)
			if at != 0 || e != api.OK || !problem.Equal(p, makeOf(t, f)) {
				t.Errorf("Source of %q returns %d, %d", source, at, e)
			}
		}
	}
	if met[api.OK] < 10 || met[api.ErrSyntax] < 10 || met[api.ErrName] < 10 {
		t.Errorf("the errors were %v", met)
	}
}
