package predicate_test

import (
	"math/big"
	"math/rand"
	"strings"
	"testing"

	"geoprover/api"
	"geoprover/plane"
	"geoprover/predicate"
	"geoprover/rational"
)

// rounds is the number of pseudo-random cases of a test.
const rounds = 400

// newSource returns a generator with a fixed seed, so that each run tests the same points.
func newSource() *rand.Rand { return rand.New(rand.NewSource(14)) }

// number returns the number with the text s.
func number(s string) api.Rat {
	a, e := rational.Read(s)
	if e != api.OK {
		panic(s)
	}
	return a
}

// all returns the points with the texts in s, between which stand a comma and a space; a text is two numbers and a space.
func all(s string) []api.Point {
	var l []api.Point
	for _, p := range strings.Split(s, ", ") {
		x, y, ok := strings.Cut(p, " ")
		if !ok {
			panic(s)
		}
		l = append(l, api.Point{X: number(x), Y: number(y)})
	}
	return l
}

// show returns the text of points that all accepts.
func show(l []api.Point) string {
	var texts []string
	for _, p := range l {
		texts = append(texts, rational.Text(p.X)+" "+rational.Text(p.Y))
	}
	return strings.Join(texts, ", ")
}

// text returns the numbers of l as text.
func text(l []api.Rat) string {
	var words []string
	for _, a := range l {
		words = append(words, rational.Text(a))
	}
	return strings.Join(words, " ")
}

// fact returns the fact of this kind with these arguments.
func fact(kind int, args ...int) api.Fact { return api.Fact{Kind: kind, Args: args} }

// ratio returns the FactRatio with this Ratio and these arguments.
func ratio(r string, args ...int) api.Fact {
	return api.Fact{Kind: api.FactRatio, Args: args, Ratio: number(r)}
}

// arities returns the number of arguments of each kind of facts, by the table of the chapter.
func arities() map[int]int {
	return map[int]int{
		api.FactCollinear: 3, api.FactParallel: 4, api.FactPerpendicular: 4, api.FactCongruent: 4, api.FactMidpoint: 3,
		api.FactConcyclic: 4, api.FactAngle: 8, api.FactSame: 2, api.FactRatio: 4,
	}
}

// kinds is the number of kinds of facts, which are numbered from 1 on.
const kinds = 9

// expectValues fails unless Values returns valid numbers with the text want, and Holds whether all of them are 0.
func expectValues(t *testing.T, f api.Fact, points []api.Point, want string) {
	t.Helper()
	l, e := predicate.Values(f, points)
	for _, x := range l {
		if !rational.Right(x) {
			t.Fatalf("Values of %v for %s returns %v", f, show(points), l)
		}
	}
	if e != api.OK || text(l) != want {
		t.Fatalf("Values of %v for %s returns %s, %d, want %s", f, show(points), text(l), e, want)
	}
	expectHolds(t, f, points, strings.Trim(want, "0 ") == "")
}

// expectHolds fails unless Holds returns want.
func expectHolds(t *testing.T, f api.Fact, points []api.Point, want bool) {
	t.Helper()
	if got, e := predicate.Holds(f, points); got != want || e != api.OK {
		t.Fatalf("Holds of %v for %s returns %v, %d", f, show(points), got, e)
	}
}

// holds reports whether the right fact f holds.
func holds(t *testing.T, f api.Fact, points []api.Point) bool {
	t.Helper()
	got, e := predicate.Holds(f, points)
	if e != api.OK {
		t.Fatalf("Holds of %v for %s returns the error %d", f, show(points), e)
	}
	return got
}

// randomNumber returns a number, often a small integer.
func randomNumber(r *rand.Rand) api.Rat {
	switch r.Intn(8) {
	case 0:
		return rational.Frac(r.Int()-r.Int(), 1+r.Int())
	case 1, 2:
		return rational.Frac(r.Intn(13)-6, 1+r.Intn(4))
	}
	return rational.Of(r.Intn(7) - 3)
}

// randomPoint returns a point, often one with small integers.
func randomPoint(r *rand.Rand) api.Point {
	return api.Point{X: randomNumber(r), Y: randomNumber(r)}
}

// randomPoints returns n points, for which facts hold often: points of a small grid, or points that are constructed from one another.
func randomPoints(r *rand.Rand, n int) []api.Point {
	var l []api.Point
	if r.Intn(2) == 0 {
		for range n {
			l = append(l, api.Point{X: rational.Of(r.Intn(3)), Y: rational.Of(r.Intn(3))})
		}
		return l
	}
	pick := func() api.Point { return l[r.Intn(len(l))] }
	for len(l) < n {
		kind := r.Intn(8)
		switch {
		case len(l) > 0 && kind == 0:
			l = append(l, plane.Divide(pick(), pick(), randomNumber(r)))
		case len(l) > 0 && kind == 1:
			l = append(l, plane.Turn(pick(), pick(), pick()))
		case len(l) > 0 && kind == 2:
			l = append(l, plane.OnCircle(pick(), pick(), randomNumber(r)))
		default:
			l = append(l, randomPoint(r))
		}
	}
	r.Shuffle(n, func(i, k int) { l[i], l[k] = l[k], l[i] })
	return l
}

// randomFact returns a right fact of this kind about so many points, in which the same point may occur several times.
func randomFact(r *rand.Rand, kind, points int) api.Fact {
	f := api.Fact{Kind: kind}
	for range arities()[kind] {
		f.Args = append(f.Args, r.Intn(points))
	}
	if kind == api.FactRatio {
		f.Ratio = randomNumber(r)
	}
	return f
}

// toBig returns the value of a.
func toBig(a api.Rat) *big.Rat {
	x, _ := new(big.Rat).SetString(rational.Text(a))
	return x
}

// sub returns the difference of two numbers.
func sub(a, b *big.Rat) *big.Rat { return new(big.Rat).Sub(a, b) }

// mul returns the product of two numbers.
func mul(a, b *big.Rat) *big.Rat { return new(big.Rat).Mul(a, b) }

// arrow is a vector, computed with math/big.
type arrow struct{ x, y *big.Rat }

// to returns the vector from a to b.
func to(a, b api.Point) arrow {
	return arrow{sub(toBig(b.X), toBig(a.X)), sub(toBig(b.Y), toBig(a.Y))}
}

// dot returns the scalar product of two vectors.
func dot(v, w arrow) *big.Rat {
	return new(big.Rat).Add(mul(v.x, w.x), mul(v.y, w.y))
}

// cross returns the determinant of two vectors.
func cross(v, w arrow) *big.Rat { return sub(mul(v.x, w.y), mul(v.y, w.x)) }

// polynomials returns the values of the polynomials of f by the definitions of DOC.md, as text.
func polynomials(f api.Fact, points []api.Point) string {
	var p []api.Point
	for _, i := range f.Args {
		p = append(p, points[i])
	}
	v := func(i, k int) arrow { return to(p[i], p[k]) }
	var l []*big.Rat
	switch f.Kind {
	case api.FactCollinear:
		l = append(l, cross(v(0, 1), v(0, 2)))
	case api.FactParallel:
		l = append(l, cross(v(0, 1), v(2, 3)))
	case api.FactPerpendicular:
		l = append(l, dot(v(0, 1), v(2, 3)))
	case api.FactCongruent:
		l = append(l, sub(dot(v(0, 1), v(0, 1)), dot(v(2, 3), v(2, 3))))
	case api.FactMidpoint:
		two := big.NewRat(2, 1)
		l = append(l, sub(new(big.Rat).Add(toBig(p[1].X), toBig(p[2].X)), mul(two, toBig(p[0].X))))
		l = append(l, sub(new(big.Rat).Add(toBig(p[1].Y), toBig(p[2].Y)), mul(two, toBig(p[0].Y))))
	case api.FactConcyclic:
		l = append(l, sub(mul(cross(v(1, 0), v(1, 2)), dot(v(3, 0), v(3, 2))), mul(cross(v(3, 0), v(3, 2)), dot(v(1, 0), v(1, 2)))))
	case api.FactAngle:
		l = append(l, sub(mul(cross(v(0, 1), v(2, 3)), dot(v(4, 5), v(6, 7))), mul(cross(v(4, 5), v(6, 7)), dot(v(0, 1), v(2, 3)))))
	case api.FactSame:
		l = append(l, sub(toBig(p[0].X), toBig(p[1].X)), sub(toBig(p[0].Y), toBig(p[1].Y)))
	case api.FactRatio:
		l = append(l, sub(dot(v(0, 1), v(0, 1)), mul(toBig(f.Ratio), dot(v(2, 3), v(2, 3)))))
	}
	var words []string
	for _, x := range l {
		words = append(words, x.RatString())
	}
	return strings.Join(words, " ")
}
