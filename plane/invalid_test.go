package plane_test

import (
	"math/rand"
	"testing"

	"geoprover/api"
	"geoprover/plane"
	"geoprover/rational"
)

// rawNumber returns a number that is rarely valid.
func rawNumber(r *rand.Rand) api.Rat {
	nats := []api.Nat{nil, {}, {0}, {1}, {1, 0}, {2}, {4}, {6, 0, 0}, {0, 1}}
	pick := func() api.Nat { return nats[r.Intn(len(nats))] }
	return api.Rat{Num: api.Int{Neg: r.Intn(2) == 0, Abs: pick()}, Den: pick()}
}

// rightNumber returns the valid number with the value of a.
func rightNumber(a api.Rat) api.Rat { return rational.Add(a, rational.Of(0)) }

// Nothing is promised for points that are not valid (R2), but functions return all the same: what they return for the valid points with the same values.
func TestInvalidArguments(t *testing.T) {
	r := newSource()
	for range 5 * rounds {
		var raw, right []api.Point
		for range 4 {
			p := api.Point{X: rawNumber(r), Y: rawNumber(r)}
			raw, right = append(raw, p), append(right, api.Point{X: rightNumber(p.X), Y: rightNumber(p.Y)})
		}
		s, choice := rawNumber(r), r.Intn(2) == 0
		for _, k := range constructions() {
			want, wanted := k.make(right, rightNumber(s), choice)
			got, e := k.make(raw, s, choice)
			expect(t, k.name, got, e, show(want), wanted)
		}
		x := plane.OnCircle(raw[0], raw[1], s)
		expect(t, "OnCircle", x, api.OK, show(plane.OnCircle(right[0], right[1], rightNumber(s))), api.OK)
		expectNumber(t, "Dot", plane.Dot(raw[0], raw[1], raw[2], raw[3]), toBig(plane.Dot(right[0], right[1], right[2], right[3])))
		expectNumber(t, "Cross", plane.Cross(raw[0], raw[1], raw[2], raw[3]), toBig(plane.Cross(right[0], right[1], right[2], right[3])))
		expectNumber(t, "Norm", plane.Norm(raw[0], raw[1]), toBig(plane.Norm(right[0], right[1])))
		if plane.Equal(raw[0], raw[1]) != plane.Equal(right[0], right[1]) {
			t.Fatalf("Equal of %v and %v", raw[0], raw[1])
		}
	}
}
