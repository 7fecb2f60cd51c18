package predicate_test

import (
	"math/rand"
	"testing"

	"geoprover/api"
	"geoprover/plane"
	"geoprover/predicate"
	"geoprover/rational"
)

// images returns the images of points under the map move.
func images(l []api.Point, move func(z api.Point) api.Point) []api.Point {
	var moved []api.Point
	for _, z := range l {
		moved = append(moved, move(z))
	}
	return moved
}

// nonzero returns a random number other than 0.
func nonzero(r *rand.Rand) api.Rat {
	for {
		if a := randomNumber(r); rational.Sign(a) != 0 {
			return a
		}
	}
}

// P14.4: rotations, translations and dilations keep facts.
func TestSimilarity(t *testing.T) {
	r := newSource()
	for kind := 1; kind <= kinds; kind++ {
		count := 0
		for range rounds {
			points := randomPoints(r, 5)
			f := randomFact(r, kind, len(points))
			if kind == api.FactRatio && r.Intn(2) == 0 {
				f.Ratio = number("1")
			}
			c, d, s := randomPoint(r), randomPoint(r), nonzero(r)
			turned := images(points, func(z api.Point) api.Point { return plane.Turn(c, d, z) })
			scaled := images(points, func(z api.Point) api.Point { return plane.Divide(c, z, s) })
			want := holds(t, f, points)
			expectHolds(t, f, turned, want)
			expectHolds(t, f, scaled, want)
			if want {
				count++
			}
		}
		if count < rounds/20 || count > rounds*19/20 {
			t.Errorf("facts of the kind %d hold in %d of %d cases", kind, count, rounds)
		}
	}
}

// P14.5: with each of these orders of its arguments, a fact holds exactly if it holds as it is.
func TestSymmetry(t *testing.T) {
	lines := [][]int{{1, 0, 2, 3}, {0, 1, 3, 2}, {2, 3, 0, 1}}
	orders := map[int][][]int{
		api.FactCollinear:     {{0, 2, 1}, {1, 0, 2}, {1, 2, 0}, {2, 0, 1}, {2, 1, 0}},
		api.FactParallel:      lines,
		api.FactPerpendicular: lines,
		api.FactCongruent:     lines,
		api.FactMidpoint:      {{0, 2, 1}},
		api.FactConcyclic:     {{1, 2, 3, 0}, {0, 3, 2, 1}},
	}
	r := newSource()
	for range rounds {
		points := randomPoints(r, 4)
		for kind, l := range orders {
			f := randomFact(r, kind, len(points))
			want := holds(t, f, points)
			for _, order := range l {
				g := api.Fact{Kind: kind}
				for _, i := range order {
					g.Args = append(g.Args, f.Args[i])
				}
				expectHolds(t, g, points, want)
			}
		}
		f := randomFact(r, api.FactCongruent, len(points))
		expectHolds(t, ratio("1", f.Args...), points, holds(t, f, points))
	}
}

// P14.6
func TestConstructions(t *testing.T) {
	r := newSource()
	for range rounds {
		l := randomPoints(r, 3)
		a, b, p := l[0], l[1], l[2]
		m := plane.Divide(a, b, number("1/2"))
		expectHolds(t, fact(api.FactMidpoint, 0, 1, 2), []api.Point{m, a, b}, true)
		if x, e := plane.Mirror(p, a, b); e == api.OK {
			points := []api.Point{a, b, p, x}
			expectHolds(t, fact(api.FactCongruent, 0, 2, 0, 3), points, true)
			expectHolds(t, fact(api.FactPerpendicular, 2, 3, 0, 1), points, true)
		}
		if o, e := plane.Center(a, b, p); e == api.OK {
			points := []api.Point{o, a, b, p}
			expectHolds(t, fact(api.FactCongruent, 0, 1, 0, 2), points, true)
			expectHolds(t, fact(api.FactCongruent, 0, 1, 0, 3), points, true)
		}
		circle := []api.Point{a}
		for range 3 {
			circle = append(circle, plane.OnCircle(p, a, randomNumber(r)))
		}
		expectHolds(t, fact(api.FactConcyclic, 0, 1, 2, 3), circle, true)
	}
}

// P14.1, P14.2, P14.3: all functions return the same errors, also for facts that are not right.
func TestErrorsRandom(t *testing.T) {
	r := newSource()
	numbers := append(wrongRatios(), number("0"), number("2/3"))
	for range 5 * rounds {
		f := api.Fact{Kind: r.Intn(kinds+3) - 1, Args: make([]int, r.Intn(10)), Ratio: numbers[r.Intn(len(numbers))]}
		if r.Intn(2) == 0 {
			f.Args = make([]int, predicate.Arity(f.Kind))
		}
		for i := range f.Args {
			f.Args[i] = r.Intn(12) - 1
		}
		points := r.Intn(12)
		expectError(t, f, points, predicate.Right(f, points))
	}
}
