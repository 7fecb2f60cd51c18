package coordinates_test

import (
	"math/big"
	"strconv"
	"strings"
	"testing"

	"geoprover/api"
	"geoprover/coordinates"
)

// P21.1: the example of the promise, with the numbers of its variables written out.
func TestOfExample(t *testing.T) {
	f := figureOf(t, "points A, B, C; M := midpoint(B, C); P := foot(A, line(B, C)); prove collinear(A, M, P);")
	expectFrame(t, f, "0, 0; v0, 0; v1, v2; 1/2*v1 + 1/2*v0, 1/2*v2; v3, v4", "p1.0 p2.0 p2.1 d4.0 d4.1")
	want := []api.Var{{Kind: 1, Step: 1}, {Kind: 1, Step: 2}, {Kind: 1, Step: 2, Number: 1}, {Kind: 2, Step: 4}, {Kind: 2, Step: 4, Number: 1}}
	for i, v := range frameOf(t, f).Vars {
		if v != want[i] {
			t.Errorf("the variable %d is %v, want %v", i, v, want[i])
		}
	}
}

// P21.1: the examples of the chapter.
func TestOfExamples(t *testing.T) {
	triangle, points, vars := "points A, B, C; ", "0, 0; v0, 0; v1, v2; ", "p1.0 p2.0 p2.1 "
	expectFrame(t, figureOf(t, triangle), "0, 0; v0, 0; v1, v2", "p1.0 p2.0 p2.1")
	expectFrame(t, figureOf(t, triangle+"P := on(line(A, B));"), points+"v0*v3, 0", vars+"p3.0")
	expectFrame(t, figureOf(t, triangle+"P := on(circle(A, B));"), points+"v4, v5", vars+"p3.0 d3.1 d3.2")
	expectFrame(t, figureOf(t, triangle+"P := turn(B, C);"), points+"-v2 + v0, v1 - v0", "p1.0 p2.0 p2.1")
	expectError(t, figure(many("free", 34)), api.ErrLarge)
}

// many returns n equal steps.
func many(step string, n int) string {
	return strings.TrimSuffix(strings.Repeat(step+", ", n), ", ")
}

// P21.1: the figure without steps.
func TestOfNothing(t *testing.T) {
	expectFrame(t, api.Figure{}, "", "")
	expectFrame(t, api.Figure{Steps: []api.Step{}, Goals: []api.Fact{}}, "", "")
}

// P21.1: the first, the second and every further free point, with other steps between them.
func TestOfFreePoints(t *testing.T) {
	expectFrame(t, figure("free"), "0, 0", "")
	expectFrame(t, figure("free, free"), "0, 0; v0, 0", "p1.0")
	expectFrame(t, figure("free, free, free, free"), "0, 0; v0, 0; v1, v2; v3, v4", "p1.0 p2.0 p2.1 p3.0 p3.1")
	expectFrame(t, figure("free, shift 0 0 0, free, turn 1 0 2, free"), "0, 0; 0, 0; v0, 0; 0, v0; v1, v2", "p2.0 p4.0 p4.1")
	expectFrame(t, figure("free, apex 0 0, online 0 1, free, oncircle 0 1, free, free"),
		"0, 0; v0, v1; v0*v2, v1*v2; v3, 0; v5, v6; v7, v8; v9, v10", "d1.0 d1.1 p2.0 p3.0 p4.0 d4.1 d4.2 p5.0 p5.1 p6.0 p6.1")
}

// P21.1: every kind of step behind four free points: its coordinates and its variables.
func TestOfKinds(t *testing.T) {
	const before, points, vars = "free, free, free, free, ", "0, 0; v0, 0; v1, v2; v3, v4; ", "p1.0 p2.0 p2.1 p3.0 p3.1"
	for step, want := range map[string][2]string{
		"free":              {"v5, v6", " p4.0 p4.1"},
		"divide 1 2 =1/2":   {"1/2*v1 + 1/2*v0, 1/2*v2", ""},
		"divide 1 2 =-2/3":  {"-2/3*v1 + 5/3*v0, -2/3*v2", ""},
		"divide 1 2 =0":     {"v0, 0", ""},
		"divide 1 2 =1":     {"v1, v2", ""},
		"divide 3 2 =2":     {"-v3 + 2*v1, -v4 + 2*v2", ""},
		"divide 2 2 =7/3":   {"v1, v2", ""},
		"divide 0 3 =-5/4":  {"-5/4*v3, -5/4*v4", ""},
		"shift 1 2 3":       {"v3 - v1 + v0, v4 - v2", ""},
		"shift 3 0 1":       {"v3 + v0, v4", ""},
		"shift 2 2 3":       {"v3, v4", ""},
		"shift 2 3 2":       {"-v3 + 2*v1, -v4 + 2*v2", ""},
		"shift 3 2 2":       {"v3, v4", ""},
		"shift 3 3 0":       {"0, 0", ""},
		"turn 3 1 2":        {"v3 - v2, v4 + v1 - v0", ""},
		"turn 1 1 2":        {"-v2 + v0, v1 - v0", ""},
		"turn 2 3 2":        {"v4 - v2 + v1, -v3 + v2 + v1", ""},
		"turn 2 3 3":        {"v1, v2", ""},
		"turn 0 0 1":        {"0, v0", ""},
		"online 2 3":        {"v3*v5 - v1*v5 + v1, v4*v5 - v2*v5 + v2", " p4.0"},
		"online 3 1":        {"-v3*v5 + v0*v5 + v3, -v4*v5 + v4", " p4.0"},
		"online 0 1":        {"v0*v5, 0", " p4.0"},
		"online 2 2":        {"v1, v2", " p4.0"},
		"oncircle 2 3":      {"v6, v7", " p4.0 d4.1 d4.2"},
		"oncircle 0 0":      {"v6, v7", " p4.0 d4.1 d4.2"},
		"foot 3 1 2":        {"v5, v6", " d4.0 d4.1"},
		"mirror 3 1 2":      {"v5, v6", " d4.0 d4.1"},
		"meet 0 1 2 3":      {"v5, v6", " d4.0 d4.1"},
		"meet 1 1 1 1":      {"v5, v6", " d4.0 d4.1"},
		"other 0 1 2":       {"v5, v6", " d4.0 d4.1"},
		"center 1 2 3":      {"v5, v6", " d4.0 d4.1"},
		"cut 0 1 2 3":       {"v5, v6", " d4.0 d4.1"},
		"cross 0 1 2 3":     {"v5, v6", " d4.0 d4.1"},
		"apex 2 3":          {"v5, v6", " d4.0 d4.1"},
		"apex 0 0":          {"v5, v6", " d4.0 d4.1"},
		"divide 1 1 =0":     {"v0, 0", ""},
		"shift 1 0 1":       {"2*v0, 0", ""},
		"turn 1 1 0":        {"v0, -v0", ""},
		"divide 1 2 =12/18": {"2/3*v1 + 1/3*v0, 2/3*v2", ""},
	} {
		expectFrame(t, figure(before+step), points+want[0], vars+want[1])
		expectFrame(t, figure(before+step+", shift 4 0 0"), points+want[0]+"; "+want[0], vars+want[1])
	}
}

// P21.1: variables behind those of other steps, and points of points whose coordinates are not variables.
func TestOfNumbers(t *testing.T) {
	expectFrame(t, figure("free, free, online 0 1, oncircle 2 1, online 3 2, free, apex 5 4, divide 4 6 =3"),
		"0, 0; v0, 0; v0*v1, 0; v3, v4; -v3*v5 + v0*v1*v5 + v3, -v4*v5 + v4; v6, v7; v8, v9; 3*v8 + 2*v3*v5 - 2*v0*v1*v5 - 2*v3, 3*v9 + 2*v4*v5 - 2*v4",
		"p1.0 p2.0 p3.0 d3.1 d3.2 p4.0 p5.0 p5.1 d6.0 d6.1")
}

// P21.1: ratios of any size.
func TestOfLongRatio(t *testing.T) {
	digits := strings.Repeat("7", 3*api.MaxDigits)
	f := figure("free, free, divide 0 1 =1/2")
	f.Steps[2].Ratio.Num = number("-3").Num
	expectFrame(t, f, "0, 0; v0, 0; -3/2*v0, 0", "p1.0")
	for range 3 { // a number with more digits than texts may have
		f.Steps[2].Ratio = toRat(t, "-"+digits)
		x := frameOf(t, f)
		if c := x.Coords[2]; len(c.X) != 1 || len(c.Y) != 0 || toBig(c.X[0].Coef).Cmp(toBig(f.Steps[2].Ratio)) != 0 {
			t.Fatal("the coordinate of a point with a long ratio")
		}
		digits += digits
	}
}

// toRat returns the integer with these digits, also if they are more than MaxDigits.
func toRat(t *testing.T, s string) api.Rat {
	t.Helper()
	n, ok := new(big.Int).SetString(s, 10)
	if !ok {
		t.Fatal(s)
	}
	a := api.Rat{Num: api.Int{Neg: n.Sign() < 0}, Den: api.Nat{1}}
	for rest := n.Abs(n); rest.Sign() > 0; rest = new(big.Int).Rsh(rest, 16) {
		a.Num.Abs = append(a.Num.Abs, uint16(rest.Uint64()))
	}
	return a
}

// model returns the frame of f by the table of the chapter: two sums for each point, and the text of the variables.
func model(f api.Figure) (points [][2]sum, vars string) {
	next, free := 0, 0
	for i, s := range f.Steps {
		first := next
		introduce := func(letter string) sum {
			vars += letter + strconv.Itoa(i) + "." + strconv.Itoa(next-first) + " "
			next++
			return variable(next - 1)
		}
		var x [2]sum
		arg := func(k, axis int) sum { return points[s.Args[k]][axis] }
		plain := func(a, b *big.Rat, m, n, k, axis int) sum { // a times the argument m, plus b times the difference of the arguments n and k
			p := sum{}.plus(a, one(), arg(m, axis))
			return p.plus(b, one(), arg(n, axis)).plus(new(big.Rat).Neg(b), one(), arg(k, axis))
		}
		unit := big.NewRat(1, 1)
		for axis := range 2 {
			switch s.Kind {
			case api.StepFree:
				if free > axis { // the second one has a variable for the first axis only
					x[axis] = introduce("p")
				}
			case api.StepDivide:
				x[axis] = plain(unit, toBig(s.Ratio), 0, 1, 0, axis)
			case api.StepShift:
				x[axis] = plain(unit, unit, 0, 2, 1, axis)
			case api.StepTurn:
				sign := big.NewRat(int64(2*axis-1), 1)
				x[axis] = arg(0, axis).plus(sign, one(), arg(2, 1-axis)).plus(new(big.Rat).Neg(sign), one(), arg(1, 1-axis))
			case api.StepOnLine:
				if axis == 0 {
					introduce("p")
				}
				x[axis] = arg(0, axis).plus(unit, variable(next-1), arg(1, axis)).plus(big.NewRat(-1, 1), variable(next-1), arg(0, axis))
			default:
				if s.Kind == api.StepOnCircle && axis == 0 {
					introduce("p")
				}
				x[axis] = introduce("d")
			}
		}
		if s.Kind == api.StepFree {
			free++
		}
		points = append(points, x)
	}
	return points, strings.TrimSpace(vars)
}

// one returns the constant 1.
func one() sum { return sum{[api.MaxVars]int{}: big.NewRat(1, 1)} }

// P21.1: random figures.
func TestOfRandom(t *testing.T) {
	r := newSource()
	for range rounds {
		f := randomFigure(r, 12)
		points, vars := model(f)
		large := false
		for _, p := range points {
			large = large || max(len(p[0]), len(p[1])) > api.MaxTerms
		}
		if large {
			expectError(t, f, api.ErrLarge)
			continue
		}
		x := frameOf(t, f)
		if showVars(x.Vars) != vars || len(x.Coords) != len(points) {
			t.Fatalf("%v has %d points and the variables %s, want %s", f, len(x.Coords), showVars(x.Vars), vars)
		}
		for i, c := range x.Coords {
			if !equals(c.X, points[i][0]) || !equals(c.Y, points[i][1]) {
				t.Fatalf("the point %d of %v is %s", i, f, showPoints(x.Coords[i:i+1]))
			}
		}
	}
}

// P21.1: goals play no part.
func TestOfGoals(t *testing.T) {
	f := figure("free, free, apex 0 1")
	f.Goals = []api.Fact{{Kind: api.FactSame, Args: []int{0, 1}}, {Kind: api.FactCollinear, Args: []int{2, 1, 0}}}
	expectFrame(t, f, "0, 0; v0, 0; v1, v2", "p1.0 d2.0 d2.1")
	if !coordinates.Right(f, frameOf(t, figure("free, free, apex 0 1"))) {
		t.Error("the goals of a figure belong to its frame")
	}
}
