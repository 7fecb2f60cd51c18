package plane_test

import (
	"testing"

	"geoprover/api"
	"geoprover/plane"
	"geoprover/rational"
)

// P13.1
func TestEqual(t *testing.T) {
	const large = "123456789123456789123456789/1000000007"
	for _, x := range []struct {
		a, b string
		want bool
	}{
		{"0 0", "0 0", true},
		{"1/2 -3", "1/2 -3", true},
		{large + " 1", large + " 1", true},
		{"1 2", "1 3", false},
		{"1 2", "3 2", false},
		{"1 2", "2 1", false},
		{"1 2", "-1 2", false},
		{"1/2 0", "1/3 0", false},
		{large + " 1", large + "1 1", false},
	} {
		if plane.Equal(at(x.a), at(x.b)) != x.want || plane.Equal(at(x.b), at(x.a)) != x.want {
			t.Errorf("Equal of %s and %s is %v", x.a, x.b, !x.want)
		}
	}
}

// P13.1
func TestVectors(t *testing.T) {
	for _, x := range []struct{ points, dot, cross, norm string }{
		{"0 0, 1 2, 1 0, 4 4", "11", "-2", "5"},
		{"1 0, 4 4, 0 0, 1 2", "11", "2", "25"},
		{"0 0, 1 0, 5 5, 5 6", "0", "1", "1"},
		{"0 0, 1 0, 5 6, 5 5", "0", "-1", "1"},
		{"1 1, 3 5, 1 1, 3 5", "20", "0", "20"},
		{"1 1, 3 5, 3 5, 1 1", "-20", "0", "20"},
		{"2 3, 2 3, 0 0, 7 1", "0", "0", "0"},
		{"7 1, 0 0, 2 3, 2 3", "0", "0", "50"},
		{"1/2 1/3, 1 1, 0 0, 2/5 -1/4", "1/30", "-47/120", "25/36"},
		{"0 0, 10000000000 1, 0 0, 1 10000000000", "20000000000", "99999999999999999999", "100000000000000000001"},
	} {
		p := all(x.points)
		expectNumber(t, "Dot of "+x.points, plane.Dot(p[0], p[1], p[2], p[3]), toBig(number(x.dot)))
		expectNumber(t, "Cross of "+x.points, plane.Cross(p[0], p[1], p[2], p[3]), toBig(number(x.cross)))
		expectNumber(t, "Norm of "+x.points, plane.Norm(p[0], p[1]), toBig(number(x.norm)))
	}
}

// P13.1: against the definitions of DOC.md.
func TestVectorsRandom(t *testing.T) {
	r := newSource()
	for range rounds {
		p := randomPoints(r, 4)
		v, w := to(p[0], p[1]), to(p[2], p[3])
		expectNumber(t, "Dot of "+showAll(p), plane.Dot(p[0], p[1], p[2], p[3]), dot(v, w))
		expectNumber(t, "Cross of "+showAll(p), plane.Cross(p[0], p[1], p[2], p[3]), cross(v, w))
		expectNumber(t, "Norm of "+showAll(p), plane.Norm(p[0], p[1]), dot(v, v))
		if plane.Equal(p[0], p[1]) != (dot(v, v).Sign() == 0) {
			t.Fatalf("Equal of %s and %s", show(p[0]), show(p[1]))
		}
	}
}

// P13.2
func TestDivide(t *testing.T) {
	for _, x := range []struct{ points, r, want string }{
		{"0 0, 3 6", "1/3", "1 2"},
		{"0 0, 3 6", "0", "0 0"},
		{"1 2, 3 6", "0", "1 2"},
		{"1 2, 3 6", "1", "3 6"},
		{"1 2, 3 6", "1/2", "2 4"},
		{"1 2, 3 6", "-1", "-1 -2"},
		{"1 2, 3 6", "5/2", "6 12"},
		{"1 2, 1 2", "7", "1 2"},
		{"1/2 1/3, 1/5 -1", "2/7", "29/70 -1/21"},
	} {
		p := all(x.points)
		expect(t, "Divide of "+x.points+" by "+x.r, plane.Divide(p[0], p[1], number(x.r)), api.OK, x.want, api.OK)
	}
}

// P13.2
func TestShiftTurn(t *testing.T) {
	for _, x := range []struct{ points, shift, turn string }{
		{"1 1, 0 0, 2 3", "3 4", "-2 3"},
		{"1 1, 2 3, 0 0", "-1 -2", "4 -1"},
		{"0 0, 5 7, 6 7", "1 0", "0 1"},
		{"0 0, 5 7, 5 8", "0 1", "-1 0"},
		{"2 5, 3 4, 3 4", "2 5", "2 5"},
		{"0 0, 0 0, 2 3", "2 3", "-3 2"},
		{"2 3, 0 0, 2 3", "4 6", "-1 5"},
		{"1/2 0, 1/3 1/5, 0 1", "1/6 4/5", "-3/10 -1/3"},
	} {
		p := all(x.points)
		expect(t, "Shift of "+x.points, plane.Shift(p[0], p[1], p[2]), api.OK, x.shift, api.OK)
		expect(t, "Turn of "+x.points, plane.Turn(p[0], p[1], p[2]), api.OK, x.turn, api.OK)
	}
}

// P13.2: against the definitions, with other arithmetic.
func TestPointsRandom(t *testing.T) {
	r := newSource()
	for range rounds {
		p, s := randomPoints(r, 3), randomNumber(r)
		expect(t, "Divide of "+showAll(p)+" by "+rational.Text(s), plane.Divide(p[0], p[1], s), api.OK, show(along(p[0], p[1], s)), api.OK)
		expect(t, "Turn of "+showAll(p), plane.Turn(p[0], p[1], p[2]), api.OK, show(across(p[0], p[1], p[2])), api.OK)
		x := plane.Shift(p[0], p[1], p[2])
		expectOK(t, "Shift of "+showAll(p), x, api.OK)
		v, w := to(p[0], x), to(p[1], p[2])
		expectZero(t, "Shift", p, x, sub(v.x, w.x), sub(v.y, w.y))
	}
}

// P13.2
func TestOnCircle(t *testing.T) {
	for _, x := range []struct{ points, t, want string }{
		{"0 0, 1 0", "1", "0 -1"},
		{"0 0, 1 0", "0", "-1 0"},
		{"0 0, 1 0", "-1", "0 1"},
		{"0 0, 1 0", "1/2", "-3/5 -4/5"},
		{"0 0, 1 0", "-2", "3/5 4/5"},
		{"2 3, 2 3", "5", "2 3"},
		{"0 0, 0 1", "0", "0 1"},
		{"0 0, 2 1", "-2", "2 1"},
		{"1 1, 4 5", "3", "1 -4"},
		{"1/2 -1/3, 1/5 2", "2/3", "-20/13 164/195"},
	} {
		p := all(x.points)
		expect(t, "OnCircle of "+x.points+" and "+x.t, plane.OnCircle(p[0], p[1], number(x.t)), api.OK, x.want, api.OK)
	}
}

// P13.2, P13.6: the point is on the circle and on the line; it is A itself only where the line touches the circle.
func TestOnCircleRandom(t *testing.T) {
	r := newSource()
	for range rounds {
		p, s := randomPoints(r, 2), randomNumber(r)
		o, a := p[0], p[1]
		x := plane.OnCircle(o, a, s)
		expectOK(t, "OnCircle", x, api.OK)
		slope := toBig(s)
		direction := arrow{toBig(number("1")), slope}
		square, twice := dot(direction, direction), mul(toBig(number("2")), dot(direction, to(a, o)))
		v := to(a, x)
		expectZero(t, "OnCircle", p, x, sub(mul(square, v.x), twice), sub(mul(square, v.y), mul(slope, twice)))
		expectZero(t, "OnCircle", p, x, sub(length(o, x), length(o, a)), cross(direction, v))
		if plane.Equal(x, a) != (twice.Sign() == 0) {
			t.Fatalf("OnCircle of %s with %s returns %s", showAll(p), rational.Text(s), show(x))
		}
	}
}
