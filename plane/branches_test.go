package plane_test

import (
	"math/big"
	"math/rand"
	"testing"

	"geoprover/api"
	"geoprover/plane"
)

// P13.5
func TestCut(t *testing.T) {
	for _, x := range []struct {
		points, far, near string
		e                 api.Errno
	}{
		{"0 3, 1 3, 0 0, 5 0", "4 3", "-4 3", api.OK},
		{"1 3, 0 3, 0 0, 5 0", "-4 3", "4 3", api.OK},
		{"0 3, -1/2 3, 0 0, 3 4", "-4 3", "4 3", api.OK},
		{"7 3, 9 3, 0 0, 0 -5", "4 3", "-4 3", api.OK}, // both points before A
		{"-9 3, -7 3, 0 0, 0 -5", "4 3", "-4 3", api.OK},
		{"3 0, 3 7, 0 0, 5 0", "3 4", "3 -4", api.OK},
		{"0 0, 3 4, 0 0, 5 0", "3 4", "-3 -4", api.OK}, // A is O
		{"5 0, -5 0, 0 0, 5 0", "-5 0", "5 0", api.OK},
		{"5 0, 3 4, 0 0, 5 0", "3 4", "5 0", api.OK}, // A and B on the circle
		{"0 3, 1 3, 0 0, 3 0", "0 3", "0 3", api.OK}, // the line touches the circle
		{"1 1, 2 2, 3 3, 3 3", "3 3", "3 3", api.OK}, // a circle that is a point
		{"0 0, 1 0, 1/2 1/3, 1/2 3/4", "3/4 0", "1/4 0", api.OK},
		{"0 0, 1 0, 1/2 1/3, 1/2 1", "", "", api.ErrIrrational},
		{"0 0, 1 0, 1/2 3/10, 1/2 4/5", "9/10 0", "1/10 0", api.OK},
		{"0 3, 1 3, 0 0, 4 0", "", "", api.ErrIrrational},
		{"0 3, 1 3, 0 0, 2 0", "", "", api.ErrNone},
		{"0 5, 1 5, 0 0, 4 0", "", "", api.ErrNone}, // 16 - 25 is the negative of a square
		{"0 5, 1 5, 0 0, 0 0", "", "", api.ErrNone}, // a circle that is a point
		{"0 3, 0 3, 0 0, 5 0", "", "", api.ErrDegenerate},
		{"0 3, 0 3, 0 0, 4 0", "", "", api.ErrDegenerate},
		{"0 3, 0 3, 0 0, 2 0", "", "", api.ErrDegenerate},
		{"0 3, 0 3, 0 3, 0 3", "", "", api.ErrDegenerate},
		{"0 3, 0 3, 0 0, 0 3", "", "", api.ErrDegenerate}, // A on the circle
	} {
		p := all(x.points)
		far, e := plane.Cut(p[0], p[1], p[2], p[3], true)
		expect(t, "Cut of "+x.points+", far", far, e, x.far, x.e)
		near, e := plane.Cut(p[0], p[1], p[2], p[3], false)
		expect(t, "Cut of "+x.points+", not far", near, e, x.near, x.e)
	}
}

// P13.5
func TestIntersect(t *testing.T) {
	for _, x := range []struct {
		points, left, right string
		e                   api.Errno
	}{
		{"0 0, 5 0, 6 0, 1 0", "3 4", "3 -4", api.OK},
		{"6 0, 1 0, 0 0, 5 0", "3 -4", "3 4", api.OK},
		{"0 0, 5 0, 0 6, 0 1", "-4 3", "4 3", api.OK},
		{"0 0, 0 15, 14 0, 1 0", "9 12", "9 -12", api.OK},
		{"0 0, 13 0, -7 0, -2 5", "-12 -5", "-12 5", api.OK}, // one center inside the other circle
		{"1/2 1, 1/2 7/2, 7/2 1, 1 1", "2 3", "2 -1", api.OK},
		{"0 0, 2 0, 3 0, 4 0", "2 0", "2 0", api.OK},  // they touch from outside
		{"0 0, 3 0, 1 0, 1 2", "3 0", "3 0", api.OK},  // they touch from inside
		{"1 0, 1 2, 0 0, 3 0", "3 0", "3 0", api.OK},  // the same, with the smaller one first
		{"2 0, 2 0, 0 0, 0 -2", "2 0", "2 0", api.OK}, // a circle that is a point
		{"0 0, 0 -2, 2 0, 2 0", "2 0", "2 0", api.OK},
		{"0 0, 2 0, 5 0, 4 0", "", "", api.ErrNone}, // apart
		{"0 0, 5 0, 1 0, 2 0", "", "", api.ErrNone}, // one inside the other
		{"1 0, 2 0, 0 0, 5 0", "", "", api.ErrNone},
		{"0 0, 3 0, 10 0, 4 0", "", "", api.ErrNone}, // D is the negative of 1729/40000, which is no square
		{"0 0, 0 0, 1 0, 1 0", "", "", api.ErrNone},  // two points; D is the negative of 1/4
		{"0 0, 1 0, 1 0, 2 0", "", "", api.ErrIrrational},
		{"0 0, 2 0, 3 0, 1/2 0", "", "", api.ErrIrrational},
		{"1 2, 3 4, 1 2, 5 6", "", "", api.ErrDegenerate}, // concentric
		{"1 2, 3 4, 1 2, 3 4", "", "", api.ErrDegenerate}, // the same circle
		{"1 2, 1 2, 1 2, 1 2", "", "", api.ErrDegenerate},
		{"0 0, 5 0, 0 0, 1 0", "", "", api.ErrDegenerate},
	} {
		p := all(x.points)
		left, e := plane.Intersect(p[0], p[1], p[2], p[3], true)
		expect(t, "Intersect of "+x.points+", left", left, e, x.left, x.e)
		right, e := plane.Intersect(p[0], p[1], p[2], p[3], false)
		expect(t, "Intersect of "+x.points+", not left", right, e, x.right, x.e)
	}
}

// P13.5: it never returns a point.
func TestApex(t *testing.T) {
	r := newSource()
	for range rounds {
		p := randomPoints(r, 2)
		for _, left := range []bool{true, false} {
			x, e := plane.Apex(p[0], p[1], left)
			if plane.Equal(p[0], p[1]) {
				expect(t, "Apex of "+showAll(p), x, e, "", api.ErrDegenerate)
				continue
			}
			expect(t, "Apex of "+showAll(p), x, e, "", api.ErrIrrational)
		}
		x, e := plane.Apex(p[0], p[0], true)
		expect(t, "Apex of "+show(p[0])+" twice", x, e, "", api.ErrDegenerate)
	}
}

// circlePoint returns a random point of the circle about o through p.
func circlePoint(r *rand.Rand, o, p api.Point) api.Point {
	return plane.OnCircle(o, p, randomNumber(r))
}

// cutArguments returns arguments of Cut, for which there is often a rational solution.
func cutArguments(r *rand.Rand) []api.Point {
	l := randomPoints(r, 4)
	switch r.Intn(4) {
	case 0: // the line touches the circle
		l[3] = along(l[0], l[1], randomNumber(r))
		l[2] = across(l[3], l[0], l[1])
	case 1, 2:
		l[3] = circlePoint(r, l[2], along(l[0], l[1], randomNumber(r)))
	}
	return l
}

// crossArguments returns arguments of Intersect, for which there is often a rational solution.
func crossArguments(r *rand.Rand) []api.Point {
	l := randomPoints(r, 4)
	if r.Intn(4) == 0 {
		return l
	}
	x := randomPoints(r, 1)[0]
	if r.Intn(3) == 0 { // the circles touch
		x = along(l[0], l[2], randomNumber(r))
	}
	l[1], l[3] = circlePoint(r, l[0], x), circlePoint(r, l[2], x)
	return l
}

// errorOf returns the error of a construction with two solutions: whether it is degenerate, and a number with the sign of D that is a square exactly if D is.
func errorOf(degenerate bool, d *big.Rat) api.Errno {
	switch {
	case degenerate:
		return api.ErrDegenerate
	case d.Sign() < 0:
		return api.ErrNone
	case !isSquare(d):
		return api.ErrIrrational
	}
	return api.OK
}

// P13.5, P13.6, P13.7: the points are on the line and on the circle, in the order of the line; there is one only where the line touches the circle.
func TestCutRandom(t *testing.T) {
	r := newSource()
	count := map[api.Errno]int{}
	for range 2 * rounds {
		l := cutArguments(r)
		a, b, o, p := l[0], l[1], l[2], l[3]
		far, e := plane.Cut(a, b, o, p, true)
		near, e2 := plane.Cut(a, b, o, p, false)
		// The distance of O from AB, in units of 1 / |AB|.
		height := cross(to(a, b), to(a, o))
		d := sub(mul(length(o, p), length(a, b)), mul(height, height))
		want := errorOf(plane.Equal(a, b), d)
		count[want]++
		if want != api.OK {
			expect(t, "Cut of "+showAll(l), far, e, "", want)
			expect(t, "Cut of "+showAll(l), near, e2, "", want)
			continue
		}
		expectOK(t, "Cut of "+showAll(l), far, e)
		expectOK(t, "Cut of "+showAll(l), near, e2)
		for _, x := range []api.Point{far, near} {
			expectZero(t, "Cut", l, x, cross(to(a, b), to(a, x)), sub(length(o, x), length(o, p)))
		}
		if dot(to(a, b), to(near, far)).Sign() != d.Sign() {
			t.Fatalf("Cut of %s returns %s and then %s", showAll(l), show(near), show(far))
		}
	}
	expectKinds(t, count)
}

// P13.5, P13.6, P13.7: the points are on both circles, on both sides of OQ; there is one only where the circles touch.
func TestIntersectRandom(t *testing.T) {
	r := newSource()
	count := map[api.Errno]int{}
	for range 2 * rounds {
		l := crossArguments(r)
		o, p, q, s := l[0], l[1], l[2], l[3]
		left, e := plane.Intersect(o, p, q, s, true)
		right, e2 := plane.Intersect(o, p, q, s, false)
		// Heron: 16 times the square of the area of a triangle with the sides |OQ|, |OP|, |QR|.
		x, y, z := length(o, q), length(o, p), length(q, s)
		rest := sub(add(x, y), z)
		d := sub(mul(toBig(number("4")), mul(x, y)), mul(rest, rest))
		want := errorOf(plane.Equal(o, q), d)
		count[want]++
		if want != api.OK {
			expect(t, "Intersect of "+showAll(l), left, e, "", want)
			expect(t, "Intersect of "+showAll(l), right, e2, "", want)
			continue
		}
		expectOK(t, "Intersect of "+showAll(l), left, e)
		expectOK(t, "Intersect of "+showAll(l), right, e2)
		for _, x := range []api.Point{left, right} {
			expectZero(t, "Intersect", l, x, sub(length(o, x), length(o, p)), sub(length(q, x), length(q, s)))
		}
		if cross(to(o, q), to(o, left)).Sign() != d.Sign() || cross(to(o, q), to(o, right)).Sign() != -d.Sign() {
			t.Fatalf("Intersect of %s returns %s on the left, %s on the right", showAll(l), show(left), show(right))
		}
		if mirror, _ := plane.Mirror(left, o, q); !plane.Equal(mirror, right) {
			t.Fatalf("Intersect of %s returns %s and %s", showAll(l), show(left), show(right))
		}
	}
	expectKinds(t, count)
}

// expectKinds fails unless the random cases had each outcome often.
func expectKinds(t *testing.T, count map[api.Errno]int) {
	t.Helper()
	for _, e := range []api.Errno{api.OK, api.ErrDegenerate, api.ErrNone, api.ErrIrrational} {
		if count[e] < 10 {
			t.Errorf("only %d cases with the error %d", count[e], e)
		}
	}
}
