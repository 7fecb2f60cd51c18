package predicate_test

import (
	"testing"

	"geoprover/api"
	"geoprover/rational"
)

// P14.2
func TestValues(t *testing.T) {
	const square = "0 0, 1 0, 1 1, 0 1"
	const general = "0 0, 3 4, 0 5"
	for _, x := range []struct {
		f      api.Fact
		points string
		want   string
	}{
		{fact(api.FactCollinear, 0, 1, 2), "0 0, 1 2, 2 4", "0"},
		{fact(api.FactCollinear, 0, 1, 2), square, "1"},
		{fact(api.FactCollinear, 0, 2, 1), square, "-1"},
		{fact(api.FactCollinear, 0, 1, 1), general, "0"},
		{fact(api.FactCollinear, 0, 0, 1), general, "0"},
		{fact(api.FactParallel, 0, 1, 2, 3), square, "0"},
		{fact(api.FactParallel, 0, 1, 1, 2), square, "1"},
		{fact(api.FactParallel, 0, 1, 2, 1), square, "-1"},
		{fact(api.FactParallel, 0, 0, 1, 2), square, "0"},
		{fact(api.FactPerpendicular, 0, 1, 1, 2), square, "0"},
		{fact(api.FactPerpendicular, 0, 2, 1, 3), square, "0"},
		{fact(api.FactPerpendicular, 0, 1, 2, 3), square, "-1"},
		{fact(api.FactPerpendicular, 0, 1, 0, 2), general, "20"},
		{fact(api.FactPerpendicular, 1, 1, 0, 2), general, "0"},
		{fact(api.FactCongruent, 0, 1, 0, 2), general, "0"},
		{fact(api.FactCongruent, 1, 2, 0, 2), general, "-15"},
		{fact(api.FactCongruent, 1, 1, 2, 2), general, "0"},
		{fact(api.FactMidpoint, 0, 1, 2), general, "3 9"},
		{fact(api.FactMidpoint, 1, 0, 2), general, "-6 -3"},
		{fact(api.FactMidpoint, 0, 1, 2), "1 2, 0 0, 2 4", "0 0"},
		{fact(api.FactMidpoint, 0, 1, 2), "1 2, 0 0, 2 5", "0 1"},
		{fact(api.FactMidpoint, 0, 1, 2), "1 2, 0 0, 3 4", "1 0"},
		{fact(api.FactMidpoint, 1, 1, 1), general, "0 0"},
		{fact(api.FactConcyclic, 0, 1, 2, 3), square, "0"},
		{fact(api.FactConcyclic, 0, 2, 1, 3), square, "0"},
		{fact(api.FactConcyclic, 0, 1, 2, 3), "0 0, 1 0, 1 1, 0 2", "-2"},
		{fact(api.FactConcyclic, 0, 1, 2, 2), general, "0"},
		{fact(api.FactConcyclic, 0, 1, 2, 3), "0 0, 1 1, 2 2, 5 5", "0"},
		{fact(api.FactAngle, 1, 0, 1, 2, 1, 0, 1, 2), general, "0"},
		{fact(api.FactAngle, 0, 1, 0, 2, 2, 3, 2, 0), square, "0"},
		{fact(api.FactAngle, 0, 1, 0, 2, 0, 2, 0, 3), square, "0"},
		{fact(api.FactAngle, 0, 1, 0, 2, 0, 2, 0, 1), square, "2"},
		{fact(api.FactAngle, 0, 1, 0, 2, 0, 1, 0, 3), square, "-1"},
		{fact(api.FactAngle, 0, 1, 0, 3, 0, 1, 0, 2), square, "1"},
		{fact(api.FactAngle, 1, 1, 0, 3, 0, 1, 0, 2), square, "0"},
		{fact(api.FactSame, 0, 1), "1 2, 1 2", "0 0"},
		{fact(api.FactSame, 0, 0), general, "0 0"},
		{fact(api.FactSame, 0, 1), general, "-3 -4"},
		{fact(api.FactSame, 1, 2), "0 0, 1 2, 1 3", "0 -1"},
		{fact(api.FactSame, 1, 2), "0 0, 1 3, 1/2 3", "1/2 0"},
		{ratio("1/4", 0, 1, 0, 2), "0 0, 1 0, 0 2", "0"},
		{ratio("4", 0, 1, 0, 2), "0 0, 1 0, 0 2", "-15"},
		{ratio("-1", 0, 1, 0, 2), "0 0, 1 0, 0 2", "5"},
		{ratio("-1", 0, 1, 0, 2), "1 2, 1 2, 1 2", "0"},
		{ratio("-1", 0, 1, 0, 2), "1 2, 1 2, 1 3", "1"},
		{ratio("0", 0, 1, 0, 2), "1 2, 1 2, 1 3", "0"},
		{ratio("0", 0, 1, 0, 2), "1 2, 1 3, 1 2", "1"},
	} {
		expectValues(t, x.f, all(x.points), x.want)
	}
}

// P14.2: against the polynomials of DOC.md.
func TestValuesRandom(t *testing.T) {
	r := newSource()
	for kind := 1; kind <= kinds; kind++ {
		for range rounds {
			points := randomPoints(r, 1+r.Intn(9))
			f := randomFact(r, kind, len(points))
			expectValues(t, f, points, polynomials(f, points))
		}
	}
}

// P14.2: a fact with two values holds only if both are 0, also if they are opposite.
func TestHoldsBoth(t *testing.T) {
	for _, x := range []struct {
		points     string
		same, half bool
	}{
		{"1 2, 1 2, 1 2", true, true},
		{"1 2, 2 1, 0 3", false, true},
		{"1 2, 2 1, 3 0", false, false},
		{"1 2, 1 3, 1 3", false, false},
		{"1 2, 3 2, 3 2", false, false},
	} {
		expectHolds(t, fact(api.FactSame, 0, 1), all(x.points), x.same)
		expectHolds(t, fact(api.FactMidpoint, 0, 1, 2), all(x.points), x.half)
	}
}

// Nothing is promised for points that are not valid (R2), but functions return all the same: what they return for the valid points with the same values.
func TestInvalidPoints(t *testing.T) {
	r := newSource()
	nats := []api.Nat{nil, {}, {0}, {1}, {1, 0}, {2}, {4}, {6, 0, 0}, {0, 1}}
	raw := func() api.Rat {
		return api.Rat{Num: api.Int{Neg: r.Intn(2) == 0, Abs: nats[r.Intn(len(nats))]}, Den: nats[r.Intn(len(nats))]}
	}
	right := func(a api.Rat) api.Rat { return rational.Add(a, rational.Of(0)) }
	for range rounds {
		var points, valid []api.Point
		for range 4 {
			p := api.Point{X: raw(), Y: raw()}
			points, valid = append(points, p), append(valid, api.Point{X: right(p.X), Y: right(p.Y)})
		}
		for kind := 1; kind <= kinds; kind++ {
			f := randomFact(r, kind, len(points))
			expectValues(t, f, points, polynomials(f, valid))
		}
	}
}
