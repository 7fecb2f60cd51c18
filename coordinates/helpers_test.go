package coordinates_test

import (
	"math/big"
	"math/rand"
	"slices"
	"strconv"
	"strings"
	"testing"

	"geoprover/api"
	"geoprover/coordinates"
	"geoprover/lower"
	"geoprover/parser"
	"geoprover/poly"
	"geoprover/polytext"
	"geoprover/rational"
)

// rounds is the number of pseudo-random cases of a test.
const rounds = 300

// newSource returns a generator with a fixed seed, so that each run tests the same figures.
func newSource() *rand.Rand { return rand.New(rand.NewSource(21)) }

// number returns the number with the text s.
func number(s string) api.Rat {
	a, e := rational.Read(s)
	if e != api.OK {
		panic(s)
	}
	return a
}

// toBig returns the value of a.
func toBig(a api.Rat) *big.Rat {
	x, ok := new(big.Rat).SetString(rational.Text(a))
	if !ok {
		panic(rational.Text(a))
	}
	return x
}

// stepWords returns the words that stand for the kinds of steps in the texts of figures, by their numbers.
func stepWords() []string {
	return []string{"", "free", "divide", "shift", "turn", "online", "oncircle", "foot", "mirror", "meet", "other", "center", "cut", "cross", "apex"}
}

// figure returns the figure with these steps, between which stand a comma and a space: a word, the arguments, and a Ratio behind a sign =.
func figure(steps string) api.Figure {
	var f api.Figure
	for _, text := range strings.Split(steps, ", ") {
		l := strings.Fields(text)
		s := api.Step{Kind: slices.Index(stepWords(), l[0])}
		for _, word := range l[1:] {
			if ratio, found := strings.CutPrefix(word, "="); found {
				s.Ratio = number(ratio)
				continue
			}
			n, err := strconv.Atoi(word)
			if err != nil {
				panic(text)
			}
			s.Args = append(s.Args, n)
		}
		f.Steps = append(f.Steps, s)
	}
	return f
}

// figureOf returns the figure of a program.
func figureOf(t *testing.T, source string) api.Figure {
	t.Helper()
	p, at, e := parser.Program(source)
	if e != api.OK {
		t.Fatalf("the program %q has the error %d at %d", source, e, at)
	}
	f, at, e := lower.Figure(p)
	if e != api.OK {
		t.Fatalf("the program %q has the error %d in the statement %d", source, e, at)
	}
	return f
}

// polyText returns the text of a polynomial in the variables v0, v1 and so on.
func polyText(p api.Poly) string {
	names := make([]string, api.MaxVars)
	for v := range names {
		names[v] = "v" + strconv.Itoa(v)
	}
	s, e := polytext.Print(p, names)
	if e != api.OK {
		return "the polynomial with the error " + strconv.Itoa(int(e))
	}
	return s
}

// showPoints returns the texts of points with a comma between the coordinates and a semicolon behind each point but the last.
func showPoints(l []api.Coord) string {
	var texts []string
	for _, c := range l {
		texts = append(texts, polyText(c.X)+", "+polyText(c.Y))
	}
	return strings.Join(texts, "; ")
}

// showVars returns the texts of variables: p for a parameter, d for a dependent variable, the step, and behind a dot the number.
func showVars(l []api.Var) string {
	var texts []string
	for _, v := range l {
		letter := "?" + strconv.Itoa(v.Kind) + "?"
		switch v.Kind {
		case 1:
			letter = "p"
		case 2:
			letter = "d"
		}
		texts = append(texts, letter+strconv.Itoa(v.Step)+"."+strconv.Itoa(v.Number))
	}
	return strings.Join(texts, " ")
}

// show returns the text of a frame.
func show(x api.Frame) string { return showPoints(x.Coords) + " | " + showVars(x.Vars) }

// expectFrame fails unless Of returns the frame with these texts of its points and of its variables.
func expectFrame(t *testing.T, f api.Figure, points, vars string) {
	t.Helper()
	x, e := coordinates.Of(f)
	if got, want := show(x), points+" | "+vars; got != want || e != api.OK {
		t.Errorf("Of(%v) is\n%s, %d, want\n%s", f, got, e, want)
	}
	if !coordinates.Right(f, x) {
		t.Errorf("the frame of %v is not right", f)
	}
}

// expectError fails unless Of returns the error e for f, and the zero frame.
func expectError(t *testing.T, f api.Figure, e api.Errno) {
	t.Helper()
	x, got := coordinates.Of(f)
	if len(x.Coords) > 0 || len(x.Vars) > 0 || got != e {
		t.Errorf("Of returns %d points, %d variables and %d for %v, want the error %d", len(x.Coords), len(x.Vars), got, f, e)
	}
	if coordinates.Right(f, x) {
		t.Errorf("the zero frame is right for %v", f)
	}
}

// frameOf returns the frame of f.
func frameOf(t *testing.T, f api.Figure) api.Frame {
	t.Helper()
	x, e := coordinates.Of(f)
	if e != api.OK {
		t.Fatalf("Of(%v) has the error %d", f, e)
	}
	return x
}

// randomFigure returns a valid figure of at most n + 1 steps without goals.
func randomFigure(r *rand.Rand, n int) api.Figure {
	f := figure("free")
	for range r.Intn(n + 1) {
		s := api.Step{Kind: api.StepFree + r.Intn(api.StepApex)}
		for range lower.Arity(s.Kind) {
			s.Args = append(s.Args, r.Intn(len(f.Steps)))
		}
		if s.Kind == api.StepDivide {
			s.Ratio = rational.Frac(r.Intn(9)-4, 1+r.Intn(3))
		}
		f.Steps = append(f.Steps, s)
	}
	return f
}

// sum is a polynomial: its coefficients, none of them 0, by the exponents of the variables.
type sum map[[api.MaxVars]int]*big.Rat

// variable returns the variable v.
func variable(v int) sum {
	var exponents [api.MaxVars]int
	exponents[v] = 1
	return sum{exponents: big.NewRat(1, 1)}
}

// plus returns p + r a q.
func (p sum) plus(r *big.Rat, a, q sum) sum {
	total := sum{}
	add := func(exponents [api.MaxVars]int, coef *big.Rat) {
		if old, found := total[exponents]; found {
			coef = new(big.Rat).Add(old, coef)
		}
		total[exponents] = coef
		if coef.Sign() == 0 {
			delete(total, exponents)
		}
	}
	for exponents, coef := range p {
		add(exponents, coef)
	}
	for m, x := range a {
		for n, y := range q {
			for v := range m {
				n[v] += m[v]
			}
			add(n, new(big.Rat).Mul(r, new(big.Rat).Mul(x, y)))
		}
	}
	return total
}

// equals reports whether p is valid and has the same terms as want.
func equals(p api.Poly, want sum) bool {
	if !poly.Right(p) || len(p) != len(want) {
		return false
	}
	for _, term := range p {
		var exponents [api.MaxVars]int
		copy(exponents[:], term.Mono)
		coef, found := want[exponents]
		if !found || coef.Cmp(toBig(term.Coef)) != 0 {
			return false
		}
	}
	return true
}
