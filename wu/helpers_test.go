package wu_test

import (
	"math/rand"
	"slices"
	"strconv"
	"strings"
	"testing"

	"geoprover/api"
	"geoprover/lower"
	"geoprover/poly"
	"geoprover/polytext"
	"geoprover/predicate"
	"geoprover/problem"
	"geoprover/rational"
	"geoprover/triangular"
	"geoprover/wu"
)

// rounds is the number of pseudo-random cases of a test.
const rounds = 300

// newSource returns a generator with a fixed seed, so that each run tests the same figures.
func newSource() *rand.Rand { return rand.New(rand.NewSource(28)) }

// names returns the names of all variables: v0, v1 and so on.
func names() []string {
	l := make([]string, api.MaxVars)
	for v := range l {
		l[v] = "v" + strconv.Itoa(v)
	}
	return l
}

// read returns the polynomial with the text s.
func read(s string) api.Poly {
	p, _, e := polytext.Read(s, names())
	if e != api.OK {
		panic(s)
	}
	return p
}

// readAll returns the polynomials with the texts in s, between which stand commas.
func readAll(s string) []api.Poly {
	if s == "" {
		return nil
	}
	var l []api.Poly
	for _, text := range strings.Split(s, ", ") {
		l = append(l, read(text))
	}
	return l
}

// show returns the texts of polynomials, or their beginnings, with commas between them.
func show(l []api.Poly) string {
	var texts []string
	for _, p := range l {
		s, e := polytext.Print(p[:min(len(p), 20)], names())
		if e != api.OK {
			s = "the polynomial with the error " + strconv.Itoa(int(e))
		}
		texts = append(texts, s)
	}
	return strings.Join(texts, ", ")
}

// equalAll reports whether the polynomials of two lists are valid and equal.
func equalAll(l, m []api.Poly) bool {
	return slices.EqualFunc(l, m, func(p, q api.Poly) bool { return poly.Right(p) && poly.Right(q) && poly.Equal(p, q) })
}

// dense returns the sum of the first n powers of the variable v.
func dense(v, n int) api.Poly {
	p := make(api.Poly, n)
	for i := range n {
		mono := make(api.Mono, v+1)
		mono[v] = n - 1 - i
		p[i] = api.Term{Coef: rational.Of(1), Mono: mono}
	}
	return poly.Norm(p)
}

// combination returns the sum of the products of the polynomials of two lists.
func combination(l, m []api.Poly) api.Poly {
	var sum api.Poly
	for i, p := range l {
		sum = poly.Add(sum, poly.Mul(p, m[i]))
	}
	return sum
}

// made returns a problem with these hypotheses and goals alone, of which the other parts are missing.
func made(hyps []api.Poly, goals ...[]api.Poly) api.Problem {
	return api.Problem{Hyps: hyps, Goals: goals}
}

// words returns the numbers of the words in s.
func words(s string) map[string]int {
	l := map[string]int{}
	for i, word := range strings.Fields(s) {
		l[word] = i + 1
	}
	return l
}

// row returns the kind with one of the words, and the numbers and the Ratio behind it; a sign = stands before the Ratio.
func row(kinds map[string]int, s string) (kind int, args []int, ratio api.Rat) {
	l := strings.Fields(s)
	for _, word := range l[1:] {
		if text, found := strings.CutPrefix(word, "="); found {
			ratio, _ = rational.Read(text)
			continue
		}
		n, err := strconv.Atoi(word)
		if err != nil {
			panic(s)
		}
		args = append(args, n)
	}
	return kinds[l[0]], args, ratio
}

// figure returns the figure with these steps, between which stand a comma and a space, as are between the goals behind a bar.
func figure(s string) api.Figure {
	steps, goals, _ := strings.Cut(s, " | ")
	var f api.Figure
	for _, text := range strings.Split(steps, ", ") {
		kind, args, ratio := row(words("free divide shift turn online oncircle foot mirror meet other center cut cross apex"), text)
		f.Steps = append(f.Steps, api.Step{Kind: kind, Args: args, Ratio: ratio})
	}
	for _, text := range strings.Split(goals, ", ") {
		if text != "" {
			kind, args, ratio := row(words("collinear parallel perpendicular congruent midpoint concyclic angle same ratio"), text)
			f.Goals = append(f.Goals, api.Fact{Kind: kind, Args: args, Ratio: ratio})
		}
	}
	return f
}

// makeOf returns the problem of f.
func makeOf(t *testing.T, f api.Figure) api.Problem {
	t.Helper()
	p, e := problem.Make(f)
	if e != api.OK {
		t.Fatalf("Make of %v has the error %d", f, e)
	}
	return p
}

// sourceOf returns the problem of a program.
func sourceOf(t *testing.T, source string) api.Problem {
	t.Helper()
	p, at, e := problem.Source(source)
	if e != api.OK {
		t.Fatalf("the program %q has the error %d at %d", source, e, at)
	}
	return p
}

// theorems returns programs whose goals Wu's method proves, with steps of all kinds.
func theorems() []string {
	const triangle = "points A, B, C; "
	return []string{
		triangle + "M := midpoint(B, C); N := midpoint(A, C); prove parallel(line(M, N), line(A, B)); prove ratio(A, B, M, N, 4);",
		triangle + "M := midpoint(B, C); N := midpoint(A, C); G := meet(line(A, M), line(B, N)); L := midpoint(A, B); prove collinear(C, G, L); prove same(G, divide(A, M, 2/3));",
		triangle + "D := foot(A, line(B, C)); prove perpendicular(line(A, D), line(B, C)); prove collinear(B, D, C);",
		"points A, B; C := apex(A, B); prove congruent(A, C, B, C); prove congruent(A, B, A, C);",
		triangle + "O := center(A, B, C); prove congruent(O, B, O, C); prove congruent(O, A, O, B);",
		triangle + "O := center(A, B, C); D := foot(A, line(B, C)); E := foot(B, line(A, C)); H := meet(line(A, D), line(B, E)); M := midpoint(B, C); N := midpoint(A, C); G := meet(line(A, M), line(B, N)); prove collinear(O, G, H); prove perpendicular(line(C, H), line(A, B));",
		triangle + "D := foot(A, line(B, C)); E := foot(B, line(A, C)); F := foot(C, line(A, B)); M := midpoint(B, C); prove concyclic(D, E, F, M);",
		"points A, B; C := on(circle(A, B)); D := on(line(B, C)); E := other(B, D, A); prove congruent(A, C, A, B); prove congruent(A, E, A, C);",
		"points O, A; B := on(circle(O, A)); C := reflect(A, O); prove perpendicular(line(A, B), line(B, C));",
		triangle + "D := mirror(A, line(B, C)); E := foot(A, line(B, C)); prove midpoint(E, A, D); prove congruent(B, A, B, D);",
		triangle + "D := cut(line(A, B), circle(C, A)); E := cross(circle(A, D), circle(C, B)); prove congruent(C, A, C, D); prove congruent(C, B, C, E);",
		triangle + "D := shift(C, A, B); M := meet(line(A, D), line(B, C)); prove midpoint(M, A, D); prove midpoint(M, B, C);",
		triangle + "D := turn(A, B); E := turn(A, C); prove congruent(B, C, D, E); prove perpendicular(line(B, C), line(D, E)); prove same(A, A);",
	}
}

// randomFigure returns a valid figure of three or four free points and at most n further steps of any kind, some of which are repeated. For each of these it has a goal that follows from it, as long as there are not too many.
func randomFigure(r *rand.Rand, n int) api.Figure {
	f := figure("free, free, free, free")
	f.Steps = f.Steps[:3+r.Intn(2)]
	for range r.Intn(n + 1) {
		s := api.Step{Kind: api.StepFree + r.Intn(api.StepApex)}
		s.Args = randomArgs(r, lower.Arity(s.Kind), len(f.Steps))
		if s.Kind == api.StepDivide {
			s.Ratio = rational.Frac(r.Intn(9)-4, 1+r.Intn(3))
		}
		f.Steps = append(f.Steps, s)
		x := len(f.Steps) - 1
		g := consequences(s, x)
		if isUnique := s.Kind != api.StepFree && s.Kind != api.StepOnLine && s.Kind != api.StepOnCircle && s.Kind < api.StepCut; isUnique && r.Intn(4) == 0 {
			f.Steps = append(f.Steps, s)
			g = []api.Fact{{Kind: api.FactSame, Args: []int{x, x + 1}}}
		}
		if len(g) > 0 && len(f.Goals) < api.MaxGoals {
			f.Goals = append(f.Goals, g[r.Intn(len(g))])
		}
	}
	return f
}

// randomArgs returns n numbers of so many points, which are different in most cases if there are enough points.
func randomArgs(r *rand.Rand, n, points int) []int {
	l := r.Perm(points)
	for len(l) < n || r.Intn(8) == 0 {
		l = append([]int{r.Intn(points)}, l...)
	}
	return l[:n]
}

// randomFact returns a right fact about so many points.
func randomFact(r *rand.Rand, points int) api.Fact {
	f := api.Fact{Kind: api.FactCollinear + r.Intn(api.FactRatio)}
	f.Args = randomArgs(r, predicate.Arity(f.Kind), points)
	if f.Kind == api.FactRatio {
		f.Ratio = rational.Frac(r.Intn(9)-4, 1+r.Intn(3))
	}
	return f
}

// consequences returns facts about the point x that its step constructs.
func consequences(s api.Step, x int) []api.Fact {
	texts := map[int]string{
		api.StepDivide: "collinear A B X", api.StepShift: "parallel A X B C, congruent A X B C", api.StepTurn: "perpendicular A X B C, congruent A X B C",
		api.StepOnLine: "collinear A X B", api.StepOnCircle: "congruent A B A X",
		api.StepFoot: "perpendicular A X B C, collinear B C X", api.StepMirror: "congruent A B B X, congruent A C C X, perpendicular A X B C",
		api.StepMeet: "collinear A B X, collinear X D C", api.StepOther: "collinear A B X, congruent C A C X",
		api.StepCenter: "congruent A X B X, congruent B X X C", api.StepCut: "collinear A B X, congruent C X C D",
		api.StepCross: "congruent A X A B, congruent C X C D", api.StepApex: "congruent A B A X, congruent A X X B",
	}
	if texts[s.Kind] == "" {
		return nil
	}
	pairs := []string{" X", " " + strconv.Itoa(x)}
	for k, a := range s.Args {
		pairs = append(pairs, " "+string(rune('A'+k)), " "+strconv.Itoa(a))
	}
	return figure("free | " + strings.NewReplacer(pairs...).Replace(texts[s.Kind])).Goals
}

// certificateOf returns the certificate of G, whose rest is 0, by the definition.
func certificateOf(t *testing.T, p api.Problem, g api.Poly) api.Certificate {
	t.Helper()
	chain, e := triangular.Make(p.Hyps)
	if e != api.OK {
		t.Fatalf("there is no chain: %d", e)
	}
	var polys []api.Poly
	for _, x := range chain {
		polys = append(polys, x.Poly)
	}
	r, e := triangular.Reduce(g, polys)
	if e != api.OK || len(r.Rest) > 0 {
		t.Fatalf("the rest is %s, %d", show([]api.Poly{r.Rest}), e)
	}
	c := api.Certificate{Factors: triangular.Initials(polys), Powers: r.Powers, Power: 1}
	for i := range p.Hyps {
		var column []api.Poly
		for _, x := range chain {
			column = append(column, x.Cofactors[i])
		}
		c.Cofactors = append(c.Cofactors, combination(r.Quotients, column))
	}
	return c
}

// equalCertificates reports whether all parts of c and d are equal.
func equalCertificates(c, d api.Certificate) bool {
	return equalAll(c.Factors, d.Factors) && slices.Equal(c.Powers, d.Powers) && c.Power == d.Power && equalAll(c.Cofactors, d.Cofactors)
}

// expectProof fails unless Prove returns these certificates.
func expectProof(t *testing.T, p api.Problem, goal int, want ...api.Certificate) {
	t.Helper()
	got, e := wu.Prove(p, goal)
	if !slices.EqualFunc(got, want, equalCertificates) || e != api.OK {
		t.Fatalf("Prove of the goal %d returns %s, %d, want %s", goal, showProof(got), e, showProof(want))
	}
}

// showProof returns the parts of certificates.
func showProof(l []api.Certificate) string {
	var text strings.Builder
	for _, c := range l {
		text.WriteString("[" + show(c.Factors) + "]")
		for _, n := range c.Powers {
			text.WriteString(" " + strconv.Itoa(n))
		}
		text.WriteString(" " + strconv.Itoa(c.Power) + " [" + show(c.Cofactors) + "]; ")
	}
	return text.String()
}

// expectNoProof fails unless Prove returns this error alone.
func expectNoProof(t *testing.T, p api.Problem, goal int, want api.Errno) {
	t.Helper()
	if got, e := wu.Prove(p, goal); len(got) > 0 || e != want {
		t.Errorf("Prove of the goal %d returns %s, %d, want the error %d", goal, showProof(got), e, want)
	}
}

// expectRests fails unless Rest returns these polynomials.
func expectRests(t *testing.T, p api.Problem, goal int, want ...api.Poly) {
	t.Helper()
	if got, e := wu.Rest(p, goal); !equalAll(got, want) || e != api.OK {
		t.Fatalf("Rest of the goal %d returns %s, %d, want %s", goal, show(got), e, show(want))
	}
}

// expectNoRests fails unless Rest and Prove return this error alone.
func expectNoRests(t *testing.T, p api.Problem, goal int, want api.Errno) {
	t.Helper()
	if got, e := wu.Rest(p, goal); len(got) > 0 || e != want {
		t.Errorf("Rest of the goal %d returns %s, %d, want the error %d", goal, show(got), e, want)
	}
	expectNoProof(t, p, goal, want)
}

// timesPower returns the product of p and the variable v to the power n.
func timesPower(v, n int, p api.Poly) api.Poly {
	for range n {
		p = poly.Mul(p, poly.Var(v))
	}
	return p
}
