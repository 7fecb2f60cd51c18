package conditions_test

import (
	"maps"
	"math/big"
	"math/rand"
	"slices"
	"strconv"
	"strings"
	"testing"

	"geoprover/api"
	"geoprover/conditions"
	"geoprover/coordinates"
	"geoprover/lower"
	"geoprover/poly"
	"geoprover/polytext"
	"geoprover/rational"
)

// rounds is the number of pseudo-random cases of a test.
const rounds = 300

// newSource returns a generator with a fixed seed, so that each run tests the same figures.
func newSource() *rand.Rand { return rand.New(rand.NewSource(23)) }

// number returns the number with the text s.
func number(s string) api.Rat {
	a, e := rational.Read(s)
	if e != api.OK {
		panic(s)
	}
	return a
}

// names returns the names of all variables: v0, v1 and so on.
func names() []string {
	l := make([]string, api.MaxVars)
	for v := range l {
		l[v] = "v" + strconv.Itoa(v)
	}
	return l
}

// show returns the texts of polynomials with a semicolon and a space between them.
func show(l ...api.Poly) string {
	var texts []string
	for _, p := range l {
		s, e := polytext.Print(p, names())
		if e != api.OK {
			s = "the polynomial with the error " + strconv.Itoa(int(e))
		}
		texts = append(texts, s)
	}
	return strings.Join(texts, "; ")
}

// stepWords returns the words that stand for the kinds of steps in the texts of figures, by their numbers.
func stepWords() []string {
	return []string{"", "free", "divide", "shift", "turn", "online", "oncircle", "foot", "mirror", "meet", "other", "center", "cut", "cross", "apex"}
}

// figure returns the figure with these steps, between which stand a comma and a space: a word, the arguments, and a Ratio behind a sign =.
func figure(steps string) api.Figure {
	var f api.Figure
	for _, text := range strings.Split(steps, ", ") {
		l := strings.Fields(text)
		s := api.Step{Kind: slices.Index(stepWords(), l[0])}
		for _, word := range l[1:] {
			if ratio, found := strings.CutPrefix(word, "="); found {
				s.Ratio = number(ratio)
				continue
			}
			n, err := strconv.Atoi(word)
			if err != nil {
				panic(text)
			}
			s.Args = append(s.Args, n)
		}
		f.Steps = append(f.Steps, s)
	}
	return f
}

// frameOf returns the frame of f.
func frameOf(t *testing.T, f api.Figure) api.Frame {
	t.Helper()
	x, e := coordinates.Of(f)
	if e != api.OK {
		t.Fatalf("%v has no frame: %d", f, e)
	}
	return x
}

// ofFigure returns the conditions of f.
func ofFigure(t *testing.T, f api.Figure) []api.Condition {
	t.Helper()
	l, e := conditions.Of(f)
	if e != api.OK {
		t.Fatalf("Of(%v) has the error %d", f, e)
	}
	return l
}

// condition returns the condition of this kind of a step.
func condition(kind, step int, args ...int) api.Condition {
	return api.Condition{Kind: kind, Args: args, Step: step}
}

// write returns the texts of conditions with a comma and a space between them: a word for the kind, the arguments, and the step behind a sign @.
func write(l ...api.Condition) string {
	var texts []string
	for _, c := range l {
		text := strconv.Itoa(c.Kind)
		if c.Kind >= 1 && c.Kind <= 4 {
			text = []string{"distinct", "triangle", "crossing", "slope"}[c.Kind-1]
		}
		for _, a := range c.Args {
			text += " " + strconv.Itoa(a)
		}
		texts = append(texts, text+" @"+strconv.Itoa(c.Step))
	}
	return strings.Join(texts, ", ")
}

// expectOf fails unless Of returns the conditions with the text want for f, and Right accepts all of them.
func expectOf(t *testing.T, f api.Figure, want string) {
	t.Helper()
	l, e := conditions.Of(f)
	if got := write(l...); got != want || e != api.OK {
		t.Errorf("Of(%v) is\n%s, %d, want\n%s", f, got, e, want)
	}
	for _, c := range l {
		if !conditions.Right(c, f) {
			t.Errorf("the condition %s of %v is not right", write(c), f)
		}
	}
}

// expectError fails unless Of returns the error e for f, and no conditions.
func expectError(t *testing.T, f api.Figure, e api.Errno) {
	t.Helper()
	if l, got := conditions.Of(f); len(l) > 0 || got != e {
		t.Errorf("Of returns %s, %d for %v, want the error %d", write(l...), got, f, e)
	}
}

// polyOf returns the polynomial of c for f, whose frame is x.
func polyOf(t *testing.T, c api.Condition, f api.Figure, x api.Frame) api.Poly {
	t.Helper()
	p, e := conditions.Poly(c, f, x)
	if e != api.OK {
		t.Fatalf("Poly of %s for %v has the error %d", write(c), f, e)
	}
	return p
}

// randomFigure returns a valid figure of three free points and at most n further steps of any kind.
func randomFigure(r *rand.Rand, n int) api.Figure {
	f := figure("free, free, free")
	for range r.Intn(n + 1) {
		s := api.Step{Kind: api.StepFree + r.Intn(api.StepApex)}
		for range lower.Arity(s.Kind) {
			s.Args = append(s.Args, r.Intn(len(f.Steps)))
		}
		if s.Kind == api.StepDivide {
			s.Ratio = rational.Frac(r.Intn(9)-4, 1+r.Intn(3))
		}
		f.Steps = append(f.Steps, s)
	}
	return f
}

// sum is a polynomial: its coefficients, none of them 0, by the exponents of the variables.
type sum map[[api.MaxVars]int]*big.Rat

// of returns the sum of the terms of p.
func of(p api.Poly) sum {
	s := sum{}
	for _, term := range p {
		var exponents [api.MaxVars]int
		copy(exponents[:], term.Mono)
		coef, ok := new(big.Rat).SetString(rational.Text(term.Coef))
		if _, found := s[exponents]; found || !ok {
			panic(show(p))
		}
		s[exponents] = coef
	}
	return s
}

// constant returns the constant n, which is not 0.
func constant(n int64) sum { return sum{[api.MaxVars]int{}: big.NewRat(n, 1)} }

// add adds a term to p.
func (p sum) add(exponents [api.MaxVars]int, coef *big.Rat) {
	if old, found := p[exponents]; found {
		coef = new(big.Rat).Add(old, coef)
	}
	p[exponents] = coef
	if coef.Sign() == 0 {
		delete(p, exponents)
	}
}

// plus returns p + q.
func (p sum) plus(q sum) sum {
	total := maps.Clone(p)
	for exponents, coef := range q {
		total.add(exponents, coef)
	}
	return total
}

// times returns p q.
func (p sum) times(q sum) sum {
	total := sum{}
	for m, a := range p {
		for n, b := range q {
			for v := range m {
				n[v] += m[v]
			}
			total.add(n, new(big.Rat).Mul(a, b))
		}
	}
	return total
}

// minus returns p - q.
func (p sum) minus(q sum) sum { return p.plus(constant(-1).times(q)) }

// equals reports whether p is valid and has the same terms as want.
func equals(p api.Poly, want sum) bool {
	if !poly.Right(p) || len(p) != len(want) {
		return false
	}
	for exponents, coef := range of(p) {
		if x, found := want[exponents]; !found || coef.Cmp(x) != 0 {
			return false
		}
	}
	return true
}

// place is the coordinates of a point, or of a vector.
type place [2]sum

// placeOf returns the coordinates of c.
func placeOf(c api.Coord) place { return place{of(c.X), of(c.Y)} }

// dot returns dot(AB, CD).
func dot(a, b, c, d place) sum {
	return b[0].minus(a[0]).times(d[0].minus(c[0])).plus(b[1].minus(a[1]).times(d[1].minus(c[1])))
}

// cross returns cross(AB, CD).
func cross(a, b, c, d place) sum {
	return b[0].minus(a[0]).times(d[1].minus(c[1])).minus(b[1].minus(a[1]).times(d[0].minus(c[0])))
}

// own returns the kind of the condition of a step of each kind, and which arguments of the step are its own, by the table of DOC.md. Kinds without a condition are left out.
func own() map[int]api.Condition {
	return map[int]api.Condition{
		api.StepOnCircle: {Kind: api.CondSlope},
		api.StepFoot:     {Kind: api.CondDistinct, Args: []int{1, 2}},
		api.StepMirror:   {Kind: api.CondDistinct, Args: []int{1, 2}},
		api.StepMeet:     {Kind: api.CondCrossing, Args: []int{0, 1, 2, 3}},
		api.StepOther:    {Kind: api.CondDistinct, Args: []int{0, 1}},
		api.StepCenter:   {Kind: api.CondTriangle, Args: []int{0, 1, 2}},
		api.StepCut:      {Kind: api.CondDistinct, Args: []int{0, 1}},
		api.StepCross:    {Kind: api.CondDistinct, Args: []int{0, 2}},
		api.StepApex:     {Kind: api.CondDistinct, Args: []int{0, 1}},
	}
}

// model returns the conditions of f by the table of DOC.md.
func model(f api.Figure) []api.Condition {
	var l []api.Condition
	for i, s := range f.Steps {
		if shape, found := own()[s.Kind]; found {
			c := api.Condition{Kind: shape.Kind, Step: i}
			for _, k := range shape.Args {
				c.Args = append(c.Args, s.Args[k])
			}
			l = append(l, c)
		}
	}
	return l
}

// polynomial returns the polynomial of c by the list of DOC.md.
func polynomial(c api.Condition, x api.Frame) sum {
	var p [4]place
	for k, a := range c.Args {
		p[k] = placeOf(x.Coords[a])
	}
	switch c.Kind {
	case api.CondDistinct:
		return dot(p[0], p[1], p[0], p[1])
	case api.CondTriangle:
		return cross(p[0], p[1], p[0], p[2])
	case api.CondCrossing:
		return cross(p[0], p[1], p[2], p[3])
	}
	t := of(poly.Var(slices.Index(x.Vars, api.Var{Kind: api.VarParam, Step: c.Step})))
	return constant(1).plus(t.times(t))
}
