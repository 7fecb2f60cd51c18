package plane_test

import (
	"testing"

	"geoprover/api"
	"geoprover/plane"
)

// P13.4
func TestOther(t *testing.T) {
	for _, x := range []struct {
		points, want string
		e            api.Errno
	}{
		{"0 0, 1 1, 1 0", "1 1", api.OK},
		{"0 0, 5 5, 1 0", "1 1", api.OK},
		{"0 0, -5 -5, 1 0", "1 1", api.OK},
		{"5 0, -5 0, 0 0", "-5 0", api.OK},
		{"5 0, 0 0, 0 0", "-5 0", api.OK},
		{"5 0, 5 1, 0 0", "5 0", api.OK}, // the line touches the circle
		{"2 3, 7 1, 2 3", "2 3", api.OK}, // O is P
		{"0 0, 1 2, 1/2 1/3", "7/15 14/15", api.OK},
		{"3 4, 3 4, 0 0", "", api.ErrDegenerate},
		{"3 4, 3 4, 3 4", "", api.ErrDegenerate},
	} {
		p := all(x.points)
		got, e := plane.Other(p[0], p[1], p[2])
		expect(t, "Other of "+x.points, got, e, x.want, x.e)
	}
}

// P13.4, P13.6: the point is on the circle and on the line; it is P itself only where the line touches the circle.
func TestOtherRandom(t *testing.T) {
	r := newSource()
	for range rounds {
		l := randomPoints(r, 3)
		p, q, o := l[0], l[1], l[2]
		x, e := plane.Other(p, q, o)
		if plane.Equal(p, q) {
			expect(t, "Other of "+showAll(l), x, e, "", api.ErrDegenerate)
			continue
		}
		expectOK(t, "Other of "+showAll(l), x, e)
		square, twice := length(p, q), mul(toBig(number("2")), dot(to(p, o), to(p, q)))
		v, w := to(p, x), to(p, q)
		expectZero(t, "Other", l, x, sub(mul(square, v.x), mul(twice, w.x)), sub(mul(square, v.y), mul(twice, w.y)))
		expectZero(t, "Other", l, x, sub(length(o, x), length(o, p)), cross(v, w))
		if plane.Equal(x, p) != (twice.Sign() == 0) {
			t.Fatalf("Other of %s returns %s", showAll(l), show(x))
		}
	}
}

// P13.4
func TestCenter(t *testing.T) {
	for _, x := range []struct {
		points, want string
		e            api.Errno
	}{
		{"0 0, 4 0, 0 2", "2 1", api.OK},
		{"0 0, 0 2, 4 0", "2 1", api.OK},
		{"4 0, 0 2, 0 0", "2 1", api.OK},
		{"5 0, 3 4, -4 -3", "0 0", api.OK},
		{"6 1, 4 5, -3 -2", "1 1", api.OK},
		{"0 0, 2 0, 1 10", "1 99/20", api.OK},
		{"1/2 0, 0 1/3, -1/5 -1/7", "1831/13440 -107/26880", api.OK},
		{"0 0, 1 1, 3 3", "", api.ErrDegenerate},
		{"1 1, 3 3, 0 0", "", api.ErrDegenerate},
		{"0 0, 0 0, 3 1", "", api.ErrDegenerate},
		{"0 0, 3 1, 0 0", "", api.ErrDegenerate},
		{"3 1, 0 0, 0 0", "", api.ErrDegenerate},
		{"3 1, 3 1, 3 1", "", api.ErrDegenerate},
	} {
		p := all(x.points)
		got, e := plane.Center(p[0], p[1], p[2])
		expect(t, "Center of "+x.points, got, e, x.want, x.e)
	}
}

// P13.4, P13.6: one point only has the same distance from three points that are not collinear.
func TestCenterRandom(t *testing.T) {
	r := newSource()
	for range rounds {
		l := randomPoints(r, 3)
		a, b, c := l[0], l[1], l[2]
		x, e := plane.Center(a, b, c)
		if cross(to(a, b), to(a, c)).Sign() == 0 {
			expect(t, "Center of "+showAll(l), x, e, "", api.ErrDegenerate)
			continue
		}
		expectOK(t, "Center of "+showAll(l), x, e)
		expectZero(t, "Center", l, x, sub(length(a, x), length(b, x)), sub(length(a, x), length(c, x)))
	}
}
