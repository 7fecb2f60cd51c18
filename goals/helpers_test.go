package goals_test

import (
	"maps"
	"math/big"
	"math/rand"
	"slices"
	"strconv"
	"strings"
	"testing"

	"geoprover/api"
	"geoprover/coordinates"
	"geoprover/goals"
	"geoprover/lower"
	"geoprover/poly"
	"geoprover/polytext"
	"geoprover/predicate"
	"geoprover/rational"
)

// rounds is the number of pseudo-random cases of a test.
const rounds = 300

// newSource returns a generator with a fixed seed, so that each run tests the same figures.
func newSource() *rand.Rand { return rand.New(rand.NewSource(24)) }

// number returns the number with the text s.
func number(s string) api.Rat {
	a, e := rational.Read(s)
	if e != api.OK {
		panic(s)
	}
	return a
}

// names returns the names of all variables: v0, v1 and so on.
func names() []string {
	l := make([]string, api.MaxVars)
	for v := range l {
		l[v] = "v" + strconv.Itoa(v)
	}
	return l
}

// read returns the polynomial with the text s.
func read(s string) api.Poly {
	p, _, e := polytext.Read(s, names())
	if e != api.OK {
		panic(s)
	}
	return p
}

// coord returns the point with the text s: two polynomials with a comma and a space between them.
func coord(s string) api.Coord {
	x, y, ok := strings.Cut(s, ", ")
	if !ok {
		panic(s)
	}
	return api.Coord{X: read(x), Y: read(y)}
}

// show returns the texts of polynomials with a semicolon and a space between them.
func show(l ...api.Poly) string {
	var texts []string
	for _, p := range l {
		s, e := polytext.Print(p, names())
		if e != api.OK {
			s = "the polynomial with the error " + strconv.Itoa(int(e))
		}
		texts = append(texts, s)
	}
	return strings.Join(texts, "; ")
}

// stepWords returns the words that stand for the kinds of steps in the texts of figures, by their numbers.
func stepWords() []string {
	return []string{"", "free", "divide", "shift", "turn", "online", "oncircle", "foot", "mirror", "meet", "other", "center", "cut", "cross", "apex"}
}

// figure returns the figure with these steps, between which stand a comma and a space: a word, the arguments, and a Ratio behind a sign =.
func figure(steps string) api.Figure {
	var f api.Figure
	for _, text := range strings.Split(steps, ", ") {
		l := strings.Fields(text)
		s := api.Step{Kind: slices.Index(stepWords(), l[0])}
		for _, word := range l[1:] {
			if ratio, found := strings.CutPrefix(word, "="); found {
				s.Ratio = number(ratio)
				continue
			}
			n, err := strconv.Atoi(word)
			if err != nil {
				panic(text)
			}
			s.Args = append(s.Args, n)
		}
		f.Steps = append(f.Steps, s)
	}
	return f
}

// frameOf returns the frame of f.
func frameOf(t *testing.T, f api.Figure) api.Frame {
	t.Helper()
	x, e := coordinates.Of(f)
	if e != api.OK {
		t.Fatalf("%v has no frame: %d", f, e)
	}
	return x
}

// randomFigure returns a valid figure of three free points and at most n further steps of any kind.
func randomFigure(r *rand.Rand, n int) api.Figure {
	f := figure("free, free, free")
	for range r.Intn(n + 1) {
		s := api.Step{Kind: api.StepFree + r.Intn(api.StepApex)}
		for range lower.Arity(s.Kind) {
			s.Args = append(s.Args, r.Intn(len(f.Steps)))
		}
		if s.Kind == api.StepDivide {
			s.Ratio = rational.Frac(r.Intn(9)-4, 1+r.Intn(3))
		}
		f.Steps = append(f.Steps, s)
	}
	return f
}

// sum is a polynomial: its coefficients, none of them 0, by the exponents of the variables.
type sum map[[api.MaxVars]int]*big.Rat

// of returns the sum of the terms of p.
func of(p api.Poly) sum {
	s := sum{}
	for _, term := range p {
		var exponents [api.MaxVars]int
		copy(exponents[:], term.Mono)
		coef, ok := new(big.Rat).SetString(rational.Text(term.Coef))
		if _, found := s[exponents]; found || !ok {
			panic(show(p))
		}
		s[exponents] = coef
	}
	return s
}

// constant returns the constant n, which is not 0.
func constant(n int64) sum { return sum{[api.MaxVars]int{}: big.NewRat(n, 1)} }

// add adds a term to p.
func (p sum) add(exponents [api.MaxVars]int, coef *big.Rat) {
	if old, found := p[exponents]; found {
		coef = new(big.Rat).Add(old, coef)
	}
	p[exponents] = coef
	if coef.Sign() == 0 {
		delete(p, exponents)
	}
}

// plus returns p + q.
func (p sum) plus(q sum) sum {
	total := maps.Clone(p)
	for exponents, coef := range q {
		total.add(exponents, coef)
	}
	return total
}

// times returns p q.
func (p sum) times(q sum) sum {
	total := sum{}
	for m, a := range p {
		for n, b := range q {
			for v := range m {
				n[v] += m[v]
			}
			total.add(n, new(big.Rat).Mul(a, b))
		}
	}
	return total
}

// minus returns p - q.
func (p sum) minus(q sum) sum { return p.plus(constant(-1).times(q)) }

// equals reports whether p is valid and has the same terms as want.
func equals(p api.Poly, want sum) bool {
	if !poly.Right(p) || len(p) != len(want) {
		return false
	}
	for exponents, coef := range of(p) {
		if x, found := want[exponents]; !found || coef.Cmp(x) != 0 {
			return false
		}
	}
	return true
}

// place is the coordinates of a point, or of a vector.
type place [2]sum

// placeOf returns the coordinates of c.
func placeOf(c api.Coord) place { return place{of(c.X), of(c.Y)} }

// dot returns dot(AB, CD).
func dot(a, b, c, d place) sum {
	return b[0].minus(a[0]).times(d[0].minus(c[0])).plus(b[1].minus(a[1]).times(d[1].minus(c[1])))
}

// cross returns cross(AB, CD).
func cross(a, b, c, d place) sum {
	return b[0].minus(a[0]).times(d[1].minus(c[1])).minus(b[1].minus(a[1]).times(d[0].minus(c[0])))
}

// norm returns |AB|^2.
func norm(a, b place) sum { return dot(a, b, a, b) }

// fact returns the fact of this kind with these arguments.
func fact(kind int, args ...int) api.Fact { return api.Fact{Kind: kind, Args: args} }

// ratio returns the FactRatio with this Ratio and these arguments.
func ratio(r string, args ...int) api.Fact {
	return api.Fact{Kind: api.FactRatio, Args: args, Ratio: number(r)}
}

// randomFact returns a right fact of this kind about so many points, in which the same point may occur several times.
func randomFact(r *rand.Rand, kind, points int) api.Fact {
	f := api.Fact{Kind: kind}
	for range predicate.Arity(kind) {
		f.Args = append(f.Args, r.Intn(points))
	}
	if kind == api.FactRatio {
		f.Ratio = []api.Rat{number("0"), number("1"), number("4"), number("9/4"), number("3/4"), rational.Frac(r.Intn(19)-9, 1+r.Intn(5))}[r.Intn(6)]
	}
	return f
}

// model returns the polynomials of f by the list of DOC.md.
func model(f api.Fact, x api.Frame) []sum {
	var p [8]place
	for k, a := range f.Args {
		p[k] = placeOf(x.Coords[a])
	}
	A, B, C, D := p[0], p[1], p[2], p[3]
	two := constant(2)
	switch f.Kind {
	case api.FactCollinear:
		return []sum{cross(A, B, A, C)}
	case api.FactParallel:
		return []sum{cross(A, B, C, D)}
	case api.FactPerpendicular:
		return []sum{dot(A, B, C, D)}
	case api.FactCongruent:
		return []sum{norm(A, B).minus(norm(C, D))}
	case api.FactMidpoint:
		M, A, B := p[0], p[1], p[2]
		return []sum{A[0].plus(B[0]).minus(two.times(M[0])), A[1].plus(B[1]).minus(two.times(M[1]))}
	case api.FactConcyclic:
		return []sum{cross(B, A, B, C).times(dot(D, A, D, C)).minus(cross(D, A, D, C).times(dot(B, A, B, C)))}
	case api.FactAngle:
		E, F, G, H := p[4], p[5], p[6], p[7]
		return []sum{cross(A, B, C, D).times(dot(E, F, G, H)).minus(cross(E, F, G, H).times(dot(A, B, C, D)))}
	case api.FactSame:
		return []sum{A[0].minus(B[0]), A[1].minus(B[1])}
	}
	return []sum{norm(A, B).minus(of(poly.Const(f.Ratio)).times(norm(C, D)))}
}

// polysOf returns the polynomials of f for x.
func polysOf(t *testing.T, f api.Fact, x api.Frame) []api.Poly {
	t.Helper()
	l, e := goals.Polys(f, x)
	if e != api.OK {
		t.Fatalf("Polys of %v has the error %d", f, e)
	}
	return l
}

// expectText fails unless Polys returns the polynomials with the text want.
func expectText(t *testing.T, f api.Fact, x api.Frame, want string) {
	t.Helper()
	if got := show(polysOf(t, f, x)...); got != want {
		t.Errorf("Polys of %v is %s, want %s", f, got, want)
	}
}

// expectError fails unless Polys returns the error e, and no polynomials.
func expectError(t *testing.T, f api.Fact, x api.Frame, e api.Errno) {
	t.Helper()
	if l, got := goals.Polys(f, x); len(l) > 0 || got != e {
		t.Errorf("Polys of %v for %d points returns %d polynomials and %d, want the error %d", f, len(x.Coords), len(l), got, e)
	}
}

// expectModel fails unless Polys returns the polynomials of DOC.md, or ErrLarge if one of them has too many terms. It returns the greatest number of terms.
func expectModel(t *testing.T, f api.Fact, x api.Frame) int {
	t.Helper()
	want, longest := model(f, x), 0
	for _, p := range want {
		longest = max(longest, len(p))
	}
	if longest > api.MaxTerms {
		expectError(t, f, x, api.ErrLarge)
		return longest
	}
	l := polysOf(t, f, x)
	if len(l) != len(want) {
		t.Fatalf("Polys of %v returns %d polynomials", f, len(l))
	}
	for k, p := range l {
		if !equals(p, want[k]) {
			t.Fatalf("the polynomial %d of %v is %s", k, f, show(p))
		}
	}
	return longest
}
