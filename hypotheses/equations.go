package hypotheses

import (
	"slices"

	"geoprover/api"
	"geoprover/poly"
	"geoprover/rational"
)

// equations returns the hypotheses of the step i and true, or nothing and false if it is clear before they are computed that one of them has more than limit terms.
func equations(s api.Step, x api.Frame, i, limit int) ([]sum, bool) {
	unknown := place(x, i)
	arg := func(k int) vector {
		if k >= len(s.Args) {
			return vector{}
		}
		return place(x, s.Args[k])
	}
	between := func(k, l int) vector { return arg(l).minus(arg(k)) }
	toX := func(k int) vector { return unknown.minus(arg(k)) }
	onLine := func(k, l int) sum { return cross(between(k, l), toX(k)) }
	onCircle := func(center, k, l int) sum { return excess(toX(center), between(k, l)) } // with the radius from k to l
	switch s.Kind {
	case api.StepOnCircle:
		return chord(vector{poly.Const(rational.Of(1)), parameter(x, i)}, toX(1), between(1, 0), limit)
	case api.StepFoot:
		return []sum{onLine(1, 2), dot(between(1, 2), toX(0))}, true
	case api.StepMirror:
		return []sum{dot(between(1, 2), toX(0)), cross(between(1, 2), between(1, 0).plus(toX(1)))}, true
	case api.StepMeet:
		return []sum{onLine(0, 1), onLine(2, 3)}, true
	case api.StepOther:
		return chord(between(0, 1), toX(0), between(0, 2), limit)
	case api.StepCenter:
		return []sum{excess(toX(0), toX(1)), excess(toX(0), toX(2))}, true
	case api.StepCut:
		return []sum{onLine(0, 1), onCircle(2, 2, 3)}, true
	case api.StepCross:
		return []sum{onCircle(0, 0, 1), onCircle(2, 2, 3)}, true
	case api.StepApex:
		return []sum{onCircle(0, 0, 1), onCircle(1, 0, 1)}, true
	}
	return nil, true
}

// place returns the coordinates of a point of x, zeros if there is no such point.
func place(x api.Frame, point int) vector {
	if point < 0 || point >= len(x.Coords) {
		return vector{}
	}
	return vector{x.Coords[point].X, x.Coords[point].Y}
}

// parameter returns the variable that the step i introduces first.
func parameter(x api.Frame, i int) api.Poly {
	return poly.Var(slices.IndexFunc(x.Vars, func(v api.Var) bool { return v.Step == i }))
}

// chord returns the hypotheses of the second point X of the circle about O through A on the line through A with the direction d, which are the coordinates of |d|^2 AX - 2 dot(AO, d) d. They have at least as many terms as |d|^2, by which the variables of X are multiplied.
func chord(d, ax, ao vector, limit int) ([]sum, bool) {
	norm, ok := dot(d, d).within(limit)
	if !ok {
		return nil, false
	}
	equation := func(k int) sum {
		factor := poly.Scale(d[k], rational.Of(-2))
		return sum{{norm, ax[k]}, {poly.Mul(factor, d[0]), ao[0]}, {poly.Mul(factor, d[1]), ao[1]}}
	}
	return []sum{equation(0), equation(1)}, true
}
