// Package fresh copies values into new memory, since results share none with arguments, nor with one another. It is no layer: any layer may use it.
package fresh

import (
	"slices"

	"geoprover/api"
)

// Rat returns a copy of a.
func Rat(a api.Rat) api.Rat {
	a.Num.Abs = slices.Clone(a.Num.Abs)
	a.Den = slices.Clone(a.Den)
	return a
}

// Rats returns a copy of l and of its numbers.
func Rats(l []api.Rat) []api.Rat { return each(l, Rat) }

// Figure returns a copy of f with all its parts.
func Figure(f api.Figure) api.Figure {
	return api.Figure{Steps: each(f.Steps, step), Goals: each(f.Goals, fact)}
}

// step returns a copy of s.
func step(s api.Step) api.Step {
	s.Args = slices.Clone(s.Args)
	s.Ratio = Rat(s.Ratio)
	return s
}

// fact returns a copy of f.
func fact(f api.Fact) api.Fact {
	f.Args = slices.Clone(f.Args)
	f.Ratio = Rat(f.Ratio)
	return f
}

// each returns the copies of the elements of l.
func each[T any](l []T, clone func(T) T) []T {
	copies := slices.Clone(l)
	for i, a := range copies {
		copies[i] = clone(a)
	}
	return copies
}
