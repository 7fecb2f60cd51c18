package purity_test

import (
	"testing"

	"geoprover/api"
	"geoprover/conditions"
	"geoprover/goals"
)

func TestConditions(t *testing.T) {
	s := samples{}
	for _, f := range figures(t) {
		s.add(f)
		l, _ := conditions.Of(f)
		for _, c := range l {
			s.add(c)
		}
	}
	for kind := range 6 {
		for n := range 5 {
			s.add(api.Condition{Kind: kind, Args: []int{2, 0, 1, 3}[:n], Step: kind + n})
		}
	}
	for _, x := range frames(t) {
		s.add(x)
	}
	s.add(places(t), places(t)[:2], []api.Point(nil))
	s.add([]string{"A", "B1", "C", "", "E", "F"}, []string{"A"}, []string(nil))
	checkAll(t, s, conditions.Of, conditions.Right, conditions.Poly, conditions.Holds, conditions.Text)
}

func TestGoals(t *testing.T) {
	s := samples{}
	for _, x := range frames(t) {
		s.add(x)
	}
	for kind := range 11 {
		for _, args := range [][]int{{0, 1, 2, 3, 4, 0, 1, 2}, {3, 2, 4, 1, 3, 4, 2, 2}, {5, 5, 6, 4, 6, 5, 4, 0}} {
			for n := range 9 {
				s.add(api.Fact{Kind: kind, Args: args[:n]}, api.Fact{Kind: kind, Args: args[:n], Ratio: number(t, "9/4")})
			}
		}
		s.add(api.Fact{Kind: kind, Args: []int{4, 3, 2, 5}, Ratio: number(t, "-2/3")})
	}
	checkAll(t, s, goals.Polys)
}
