package hypotheses_test

import (
	"maps"
	"math/big"
	"math/rand"
	"slices"
	"strconv"
	"strings"
	"testing"

	"geoprover/api"
	"geoprover/coordinates"
	"geoprover/hypotheses"
	"geoprover/lower"
	"geoprover/poly"
	"geoprover/polytext"
	"geoprover/rational"
)

// rounds is the number of pseudo-random cases of a test.
const rounds = 300

// newSource returns a generator with a fixed seed, so that each run tests the same figures.
func newSource() *rand.Rand { return rand.New(rand.NewSource(22)) }

// number returns the number with the text s.
func number(s string) api.Rat {
	a, e := rational.Read(s)
	if e != api.OK {
		panic(s)
	}
	return a
}

// names returns the names of all variables: v0, v1 and so on.
func names() []string {
	l := make([]string, api.MaxVars)
	for v := range l {
		l[v] = "v" + strconv.Itoa(v)
	}
	return l
}

// read returns the polynomial with the text s.
func read(s string) api.Poly {
	p, _, e := polytext.Read(s, names())
	if e != api.OK {
		panic(s)
	}
	return p
}

// coord returns the point with the text s: two polynomials with a comma and a space between them.
func coord(s string) api.Coord {
	x, y, ok := strings.Cut(s, ", ")
	if !ok {
		panic(s)
	}
	return api.Coord{X: read(x), Y: read(y)}
}

// show returns the texts of polynomials with a semicolon and a space between them.
func show(l ...api.Poly) string {
	var texts []string
	for _, p := range l {
		s, e := polytext.Print(p, names())
		if e != api.OK {
			s = "the polynomial with the error " + strconv.Itoa(int(e))
		}
		texts = append(texts, s)
	}
	return strings.Join(texts, "; ")
}

// stepWords returns the words that stand for the kinds of steps in the texts of figures, by their numbers.
func stepWords() []string {
	return []string{"", "free", "divide", "shift", "turn", "online", "oncircle", "foot", "mirror", "meet", "other", "center", "cut", "cross", "apex"}
}

// figure returns the figure with these steps, between which stand a comma and a space: a word, the arguments, and a Ratio behind a sign =.
func figure(steps string) api.Figure {
	var f api.Figure
	for _, text := range strings.Split(steps, ", ") {
		l := strings.Fields(text)
		s := api.Step{Kind: slices.Index(stepWords(), l[0])}
		for _, word := range l[1:] {
			if ratio, found := strings.CutPrefix(word, "="); found {
				s.Ratio = number(ratio)
				continue
			}
			n, err := strconv.Atoi(word)
			if err != nil {
				panic(text)
			}
			s.Args = append(s.Args, n)
		}
		f.Steps = append(f.Steps, s)
	}
	return f
}

// frameOf returns the frame of f.
func frameOf(t *testing.T, f api.Figure) api.Frame {
	t.Helper()
	x, e := coordinates.Of(f)
	if e != api.OK {
		t.Fatalf("%v has no frame: %d", f, e)
	}
	return x
}

// stepOf returns the hypotheses of the step i of f, whose frame is x.
func stepOf(t *testing.T, f api.Figure, x api.Frame, i int) []api.Poly {
	t.Helper()
	l, e := hypotheses.Step(f, x, i)
	if e != api.OK {
		t.Fatalf("Step of %v and %d has the error %d", f, i, e)
	}
	return l
}

// expectOf fails unless Of returns for f the hypotheses with the text want.
func expectOf(t *testing.T, f api.Figure, want string) {
	t.Helper()
	l, e := hypotheses.Of(f)
	if got := show(l...); got != want || e != api.OK {
		t.Errorf("Of(%v) is\n%s, %d, want\n%s", f, got, e, want)
	}
}

// expectError fails unless Of returns the error e for f, and nothing else.
func expectError(t *testing.T, f api.Figure, e api.Errno) {
	t.Helper()
	if l, got := hypotheses.Of(f); len(l) > 0 || got != e {
		t.Errorf("Of returns %d hypotheses and %d for %v, want the error %d", len(l), got, f, e)
	}
}

// randomFigure returns a valid figure of two free points and at most n further steps of any kind.
func randomFigure(r *rand.Rand, n int) api.Figure {
	f := figure("free, free")
	for range r.Intn(n + 1) {
		s := api.Step{Kind: api.StepFree + r.Intn(api.StepApex)}
		for range lower.Arity(s.Kind) {
			s.Args = append(s.Args, r.Intn(len(f.Steps)))
		}
		if s.Kind == api.StepDivide {
			s.Ratio = rational.Frac(r.Intn(9)-4, 1+r.Intn(3))
		}
		f.Steps = append(f.Steps, s)
	}
	return f
}

// sum is a polynomial: its coefficients, none of them 0, by the exponents of the variables.
type sum map[[api.MaxVars]int]*big.Rat

// of returns the sum of the terms of p.
func of(p api.Poly) sum {
	s := sum{}
	for _, term := range p {
		var exponents [api.MaxVars]int
		copy(exponents[:], term.Mono)
		coef, ok := new(big.Rat).SetString(rational.Text(term.Coef))
		if _, found := s[exponents]; found || !ok {
			panic(show(p))
		}
		s[exponents] = coef
	}
	return s
}

// constant returns the constant n, which is not 0.
func constant(n int64) sum { return sum{[api.MaxVars]int{}: big.NewRat(n, 1)} }

// add adds a term to p.
func (p sum) add(exponents [api.MaxVars]int, coef *big.Rat) {
	if old, found := p[exponents]; found {
		coef = new(big.Rat).Add(old, coef)
	}
	p[exponents] = coef
	if coef.Sign() == 0 {
		delete(p, exponents)
	}
}

// plus returns p + q.
func (p sum) plus(q sum) sum {
	total := maps.Clone(p)
	for exponents, coef := range q {
		total.add(exponents, coef)
	}
	return total
}

// times returns p q.
func (p sum) times(q sum) sum {
	total := sum{}
	for m, a := range p {
		for n, b := range q {
			for v := range m {
				n[v] += m[v]
			}
			total.add(n, new(big.Rat).Mul(a, b))
		}
	}
	return total
}

// minus returns p - q.
func (p sum) minus(q sum) sum { return p.plus(constant(-1).times(q)) }

// equals reports whether p is valid and has the same terms as want.
func equals(p api.Poly, want sum) bool {
	if !poly.Right(p) || len(p) != len(want) {
		return false
	}
	for exponents, coef := range of(p) {
		if x, found := want[exponents]; !found || coef.Cmp(x) != 0 {
			return false
		}
	}
	return true
}

// place is the coordinates of a point, or of a vector.
type place [2]sum

// placeOf returns the coordinates of c.
func placeOf(c api.Coord) place { return place{of(c.X), of(c.Y)} }

// dot returns dot(AB, CD).
func dot(a, b, c, d place) sum {
	return b[0].minus(a[0]).times(d[0].minus(c[0])).plus(b[1].minus(a[1]).times(d[1].minus(c[1])))
}

// cross returns cross(AB, CD).
func cross(a, b, c, d place) sum {
	return b[0].minus(a[0]).times(d[1].minus(c[1])).minus(b[1].minus(a[1]).times(d[0].minus(c[0])))
}

// norm returns |AB|^2.
func norm(a, b place) sum { return dot(a, b, a, b) }

// model returns the hypotheses of the step i of f, whose frame is x, by the table of DOC.md.
func model(f api.Figure, x api.Frame, i int) []sum {
	s := f.Steps[i]
	var p [4]place
	for k, a := range s.Args {
		p[k] = placeOf(x.Coords[a])
	}
	X := placeOf(x.Coords[i])
	switch s.Kind {
	case api.StepOnCircle:
		t := of(poly.Var(slices.IndexFunc(x.Vars, func(v api.Var) bool { return v.Step == i && v.Number == 0 })))
		O, A, one, two := p[0], p[1], constant(1), constant(2)
		bracket := O[0].minus(A[0]).plus(t.times(O[1].minus(A[1])))
		square := one.plus(t.times(t))
		return []sum{square.times(X[0].minus(A[0])).minus(two.times(bracket)), square.times(X[1].minus(A[1])).minus(two.times(t).times(bracket))}
	case api.StepFoot:
		return []sum{cross(p[1], p[2], p[1], X), dot(p[1], p[2], p[0], X)}
	case api.StepMirror:
		return []sum{dot(p[1], p[2], p[0], X), cross(p[1], p[2], p[1], p[0]).plus(cross(p[1], p[2], p[1], X))}
	case api.StepMeet:
		return []sum{cross(p[0], p[1], p[0], X), cross(p[2], p[3], p[2], X)}
	case api.StepOther:
		P, Q, O, two := p[0], p[1], p[2], constant(2)
		double := two.times(dot(P, O, P, Q))
		return []sum{norm(P, Q).times(X[0].minus(P[0])).minus(double.times(Q[0].minus(P[0]))), norm(P, Q).times(X[1].minus(P[1])).minus(double.times(Q[1].minus(P[1])))}
	case api.StepCenter:
		return []sum{norm(p[0], X).minus(norm(p[1], X)), norm(p[0], X).minus(norm(p[2], X))}
	case api.StepCut:
		return []sum{cross(p[0], p[1], p[0], X), norm(p[2], X).minus(norm(p[2], p[3]))}
	case api.StepCross:
		return []sum{norm(p[0], X).minus(norm(p[0], p[1])), norm(p[2], X).minus(norm(p[2], p[3]))}
	case api.StepApex:
		return []sum{norm(p[0], X).minus(norm(p[0], p[1])), norm(p[1], X).minus(norm(p[0], p[1]))}
	}
	return nil
}
