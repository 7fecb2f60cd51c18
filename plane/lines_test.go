package plane_test

import (
	"testing"

	"geoprover/api"
	"geoprover/plane"
)

// P13.3
func TestFootMirror(t *testing.T) {
	for _, x := range []struct {
		points, foot, mirror string
		want                 api.Errno
	}{
		{"1 3, 0 0, 2 0", "1 0", "1 -3", api.OK},
		{"1 3, 2 0, 0 0", "1 0", "1 -3", api.OK},
		{"-5 3, 0 0, 2 0", "-5 0", "-5 -3", api.OK},
		{"3 1, 0 0, 0 -7", "0 1", "-3 1", api.OK},
		{"3 1, 0 0, 1 1", "2 2", "1 3", api.OK},
		{"2 2, 0 0, 1 1", "2 2", "2 2", api.OK},
		{"0 0, 0 0, 1 1", "0 0", "0 0", api.OK},
		{"1 1, 0 0, 1 1", "1 1", "1 1", api.OK},
		{"1 0, 1 1, 2 3", "3/5 1/5", "1/5 2/5", api.OK},
		{"1/2 1/3, 1 0, 1 1/7", "1 1/3", "3/2 1/3", api.OK},
		{"1 3, 2 5, 2 5", "", "", api.ErrDegenerate},
		{"2 5, 2 5, 2 5", "", "", api.ErrDegenerate},
		{"0 0, 1/2 0, 1/2 0", "", "", api.ErrDegenerate},
	} {
		p := all(x.points)
		foot, e := plane.Foot(p[0], p[1], p[2])
		expect(t, "Foot of "+x.points, foot, e, x.foot, x.want)
		mirror, e := plane.Mirror(p[0], p[1], p[2])
		expect(t, "Mirror of "+x.points, mirror, e, x.mirror, x.want)
	}
}

// P13.3, P13.6: the hypotheses are linear, and no other point satisfies them.
func TestFootMirrorRandom(t *testing.T) {
	r := newSource()
	for range rounds {
		l := randomPoints(r, 3)
		p, a, b := l[0], l[1], l[2]
		foot, e := plane.Foot(p, a, b)
		mirror, e2 := plane.Mirror(p, a, b)
		if plane.Equal(a, b) {
			expect(t, "Foot of "+showAll(l), foot, e, "", api.ErrDegenerate)
			expect(t, "Mirror of "+showAll(l), mirror, e2, "", api.ErrDegenerate)
			continue
		}
		expectOK(t, "Foot of "+showAll(l), foot, e)
		expectZero(t, "Foot", l, foot, cross(to(a, b), to(a, foot)), dot(to(a, b), to(p, foot)))
		expectOK(t, "Mirror of "+showAll(l), mirror, e2)
		expectZero(t, "Mirror", l, mirror, dot(to(a, b), to(p, mirror)), add(cross(to(a, b), to(a, p)), cross(to(a, b), to(a, mirror))))
	}
}

// P13.3
func TestMeet(t *testing.T) {
	for _, x := range []struct {
		points, want string
		e            api.Errno
	}{
		{"0 0, 2 2, 0 2, 2 0", "1 1", api.OK},
		{"2 2, 0 0, 0 2, 2 0", "1 1", api.OK},
		{"0 2, 2 0, 2 2, 0 0", "1 1", api.OK},
		{"0 0, 1 0, 5 1, 5 2", "5 0", api.OK},
		{"5 1, 5 2, 0 0, 1 0", "5 0", api.OK},
		{"0 0, 1 0, 0 1, 1 2", "-1 0", api.OK},
		{"0 0, 1 3, 0 0, 2 1", "0 0", api.OK},
		{"0 0, 1 3, 2 1, 1 3", "1 3", api.OK},
		{"1 2, 3 3, 0 0, 1 1", "3 3", api.OK},
		{"0 1/2, 1 1/3, 0 0, 1 1", "3/7 3/7", api.OK},
		{"0 0, 1 0, 0 1, 1 1", "", api.ErrDegenerate},   // parallel
		{"0 0, 1 0, 1 1, 0 1", "", api.ErrDegenerate},   // parallel, in the opposite direction
		{"0 0, 1 2, 3 6, -1 -2", "", api.ErrDegenerate}, // the same line
		{"0 0, 1 2, 0 0, 1 2", "", api.ErrDegenerate},
		{"1 1, 1 1, 0 0, 1 2", "", api.ErrDegenerate},
		{"0 0, 1 2, 1 1, 1 1", "", api.ErrDegenerate},
		{"0 0, 0 0, 0 0, 0 0", "", api.ErrDegenerate},
	} {
		p := all(x.points)
		got, e := plane.Meet(p[0], p[1], p[2], p[3])
		expect(t, "Meet of "+x.points, got, e, x.want, x.e)
	}
}

// P13.3, P13.6: one point only is on both lines.
func TestMeetRandom(t *testing.T) {
	r := newSource()
	for range rounds {
		l := randomPoints(r, 4)
		a, b, c, d := l[0], l[1], l[2], l[3]
		x, e := plane.Meet(a, b, c, d)
		if cross(to(a, b), to(c, d)).Sign() == 0 {
			expect(t, "Meet of "+showAll(l), x, e, "", api.ErrDegenerate)
			continue
		}
		expectOK(t, "Meet of "+showAll(l), x, e)
		expectZero(t, "Meet", l, x, cross(to(a, b), to(a, x)), cross(to(c, d), to(c, x)))
	}
}
