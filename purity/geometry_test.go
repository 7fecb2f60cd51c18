package purity_test

import (
	"testing"

	"geoprover/api"
	"geoprover/plane"
	"geoprover/predicate"
)

// places returns points, some of which span perpendicular vectors or vectors of rational lengths.
func places(t *testing.T) []api.Point {
	t.Helper()
	var l []api.Point
	for _, p := range [][2]string{{"0", "0"}, {"5", "0"}, {"3", "4"}, {"-3/2", "1/3"}, {"12345678901234567890/7", "-1"}} {
		l = append(l, api.Point{X: number(t, p[0]), Y: number(t, p[1])})
	}
	return l
}

func TestPlane(t *testing.T) {
	s := samples{}
	s.add(false, true, number(t, "0"), number(t, "1"), number(t, "-2/3"))
	for _, p := range places(t) {
		s.add(p)
	}
	s.add(api.Point{})
	checkAll(t, s, plane.Equal, plane.Dot, plane.Cross, plane.Norm, plane.Divide, plane.Shift, plane.Turn, plane.OnCircle, plane.Foot, plane.Mirror, plane.Meet, plane.Other, plane.Center, plane.Cut, plane.Intersect, plane.Apex)
}

func TestPredicate(t *testing.T) {
	s := samples{}
	s.add(places(t), places(t)[:2], []api.Point(nil))
	s.add([]string{"A", "B", "C", "D", ""}, []string{"A"}, []string(nil))
	for kind := range 11 {
		s.add(kind)
		args := []int{0, 1, 2, 3, 4, 0, 1, 2}[:predicate.Arity(kind)]
		for _, r := range []api.Rat{{}, number(t, "-1/4")} {
			s.add(api.Fact{Kind: kind, Args: args, Ratio: r}, api.Fact{Kind: kind, Args: args[min(len(args), 1):], Ratio: r})
		}
		s.add(api.Fact{Kind: kind, Args: make([]int, len(args))})
	}
	checkAll(t, s, predicate.Arity, predicate.Right, predicate.Values, predicate.Holds, predicate.Text)
}
