package plane_test

import (
	"math/big"
	"math/rand"
	"strings"
	"testing"

	"geoprover/api"
	"geoprover/plane"
	"geoprover/rational"
)

// rounds is the number of pseudo-random cases of a test.
const rounds = 400

// newSource returns a generator with a fixed seed, so that each run tests the same points.
func newSource() *rand.Rand { return rand.New(rand.NewSource(13)) }

// number returns the number with the text s.
func number(s string) api.Rat {
	a, e := rational.Read(s)
	if e != api.OK {
		panic(s)
	}
	return a
}

// at returns the point with the text s: its coordinates and a space.
func at(s string) api.Point {
	x, y, ok := strings.Cut(s, " ")
	if !ok {
		panic(s)
	}
	return api.Point{X: number(x), Y: number(y)}
}

// all returns the points with the texts in s, between which stand a comma and a space.
func all(s string) []api.Point {
	var l []api.Point
	for _, p := range strings.Split(s, ", ") {
		l = append(l, at(p))
	}
	return l
}

// show returns the text of a point that at accepts.
func show(p api.Point) string { return rational.Text(p.X) + " " + rational.Text(p.Y) }

// showAll returns the text of points that all accepts.
func showAll(l []api.Point) string {
	var texts []string
	for _, p := range l {
		texts = append(texts, show(p))
	}
	return strings.Join(texts, ", ")
}

// isRight reports whether p is valid.
func isRight(p api.Point) bool { return rational.Right(p.X) && rational.Right(p.Y) }

// isZero reports whether p is the zero value.
func isZero(p api.Point) bool {
	isNone := func(a api.Rat) bool { return !a.Num.Neg && len(a.Num.Abs) == 0 && len(a.Den) == 0 }
	return isNone(p.X) && isNone(p.Y)
}

// expect fails unless a call returned the point with the text want, or the zero value and the error e if want is empty.
func expect(t *testing.T, what string, got api.Point, e api.Errno, want string, wanted api.Errno) {
	t.Helper()
	right := wanted == api.OK && isRight(got) && show(got) == want || wanted != api.OK && isZero(got)
	if e != wanted || !right {
		t.Errorf("%s returns %s, %d, want %q, %d", what, show(got), e, want, wanted)
	}
}

// expectOK fails unless a call returned a valid point and no error.
func expectOK(t *testing.T, what string, got api.Point, e api.Errno) {
	t.Helper()
	if e != api.OK || !isRight(got) {
		t.Fatalf("%s returns %v, %d", what, got, e)
	}
}

// expectNumber fails unless got is valid and has the value want.
func expectNumber(t *testing.T, what string, got api.Rat, want *big.Rat) {
	t.Helper()
	if !rational.Right(got) || toBig(got).Cmp(want) != 0 {
		t.Errorf("%s returns %v, want %s", what, got, want)
	}
}

// toBig returns the value of a.
func toBig(a api.Rat) *big.Rat {
	x, _ := new(big.Rat).SetString(rational.Text(a))
	return x
}

// add returns the sum of two numbers.
func add(a, b *big.Rat) *big.Rat { return new(big.Rat).Add(a, b) }

// sub returns the difference of two numbers.
func sub(a, b *big.Rat) *big.Rat { return new(big.Rat).Sub(a, b) }

// mul returns the product of two numbers.
func mul(a, b *big.Rat) *big.Rat { return new(big.Rat).Mul(a, b) }

// isSquare reports whether a is the square of a rational number.
func isSquare(a *big.Rat) bool {
	if a.Sign() < 0 {
		return false
	}
	for _, n := range []*big.Int{a.Num(), a.Denom()} {
		root := new(big.Int).Sqrt(n)
		if root.Mul(root, root).Cmp(n) != 0 {
			return false
		}
	}
	return true
}

// arrow is a vector, computed with math/big.
type arrow struct{ x, y *big.Rat }

// to returns the vector from a to b.
func to(a, b api.Point) arrow {
	return arrow{sub(toBig(b.X), toBig(a.X)), sub(toBig(b.Y), toBig(a.Y))}
}

// dot returns the scalar product of two vectors.
func dot(v, w arrow) *big.Rat { return add(mul(v.x, w.x), mul(v.y, w.y)) }

// cross returns the determinant of two vectors.
func cross(v, w arrow) *big.Rat { return sub(mul(v.x, w.y), mul(v.y, w.x)) }

// length returns the square of the distance between a and b.
func length(a, b api.Point) *big.Rat { return dot(to(a, b), to(a, b)) }

// expectZero fails unless all polynomials, which are hypotheses of a step, have the value 0.
func expectZero(t *testing.T, what string, l []api.Point, x api.Point, polynomials ...*big.Rat) {
	t.Helper()
	for i, p := range polynomials {
		if p.Sign() != 0 {
			t.Fatalf("%s of %s returns %s: the hypothesis %d is %s", what, showAll(l), show(x), i, p)
		}
	}
}

// randomNumber returns a number, often a small integer.
func randomNumber(r *rand.Rand) api.Rat {
	switch r.Intn(8) {
	case 0:
		return rational.Frac(r.Int()-r.Int(), 1+r.Int())
	case 1, 2:
		return rational.Frac(r.Intn(13)-6, 1+r.Intn(4))
	}
	return rational.Of(r.Intn(7) - 3)
}

// along returns A + s AB, without package plane.
func along(a, b api.Point, s api.Rat) api.Point {
	part := func(x, y api.Rat) api.Rat { return rational.Add(x, rational.Mul(s, rational.Sub(y, x))) }
	return api.Point{X: part(a.X, b.X), Y: part(a.Y, b.Y)}
}

// across returns P + i AB, without package plane.
func across(p, a, b api.Point) api.Point {
	return api.Point{X: rational.Sub(p.X, rational.Sub(b.Y, a.Y)), Y: rational.Add(p.Y, rational.Sub(b.X, a.X))}
}

// randomPoints returns n points. Some of them coincide, lie on a line, or span perpendicular vectors.
func randomPoints(r *rand.Rand, n int) []api.Point {
	var l []api.Point
	pick := func() api.Point { return l[r.Intn(len(l))] }
	for len(l) < n {
		kind := r.Intn(12)
		switch {
		case len(l) > 0 && kind == 0:
			l = append(l, pick())
		case len(l) > 0 && kind == 1:
			l = append(l, along(pick(), pick(), randomNumber(r)))
		case len(l) > 0 && kind == 2:
			l = append(l, across(pick(), pick(), pick()))
		default:
			l = append(l, api.Point{X: randomNumber(r), Y: randomNumber(r)})
		}
	}
	r.Shuffle(n, func(i, k int) { l[i], l[k] = l[k], l[i] })
	return l
}

// construction is a function of the package that constructs a point from points, a number and a choice.
type construction struct {
	name   string
	points int
	make   func(p []api.Point, s api.Rat, choice bool) (api.Point, api.Errno)
}

// constructions returns all constructions but OnCircle.
func constructions() []construction {
	return []construction{
		{"Divide", 2, func(p []api.Point, s api.Rat, choice bool) (api.Point, api.Errno) {
			return plane.Divide(p[0], p[1], s), api.OK
		}},
		{"Shift", 3, func(p []api.Point, s api.Rat, choice bool) (api.Point, api.Errno) {
			return plane.Shift(p[0], p[1], p[2]), api.OK
		}},
		{"Turn", 3, func(p []api.Point, s api.Rat, choice bool) (api.Point, api.Errno) {
			return plane.Turn(p[0], p[1], p[2]), api.OK
		}},
		{"Foot", 3, func(p []api.Point, s api.Rat, choice bool) (api.Point, api.Errno) {
			return plane.Foot(p[0], p[1], p[2])
		}},
		{"Mirror", 3, func(p []api.Point, s api.Rat, choice bool) (api.Point, api.Errno) {
			return plane.Mirror(p[0], p[1], p[2])
		}},
		{"Meet", 4, func(p []api.Point, s api.Rat, choice bool) (api.Point, api.Errno) {
			return plane.Meet(p[0], p[1], p[2], p[3])
		}},
		{"Other", 3, func(p []api.Point, s api.Rat, choice bool) (api.Point, api.Errno) {
			return plane.Other(p[0], p[1], p[2])
		}},
		{"Center", 3, func(p []api.Point, s api.Rat, choice bool) (api.Point, api.Errno) {
			return plane.Center(p[0], p[1], p[2])
		}},
		{"Cut", 4, func(p []api.Point, s api.Rat, choice bool) (api.Point, api.Errno) {
			return plane.Cut(p[0], p[1], p[2], p[3], choice)
		}},
		{"Intersect", 4, func(p []api.Point, s api.Rat, choice bool) (api.Point, api.Errno) {
			return plane.Intersect(p[0], p[1], p[2], p[3], choice)
		}},
		{"Apex", 2, func(p []api.Point, s api.Rat, choice bool) (api.Point, api.Errno) {
			return plane.Apex(p[0], p[1], choice)
		}},
	}
}
