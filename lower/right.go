package lower

import (
	"geoprover/api"
	"geoprover/lexer"
	"geoprover/predicate"
	"geoprover/rational"
)

// Arity returns the number of arguments of a kind of steps, -1 if there is no such kind.
func Arity(kind int) int {
	switch kind {
	case api.StepFree:
		return 0
	case api.StepDivide, api.StepOnLine, api.StepOnCircle, api.StepApex:
		return 2
	case api.StepShift, api.StepTurn, api.StepFoot, api.StepMirror, api.StepOther, api.StepCenter:
		return 3
	case api.StepMeet, api.StepCut, api.StepCross:
		return 4
	}
	return -1
}

// Right returns OK if f is a valid figure.
func Right(f api.Figure) api.Errno {
	if tooLarge(f) {
		return api.ErrLarge
	}
	named := map[string]bool{}
	for i, s := range f.Steps {
		if e := checkStep(s, i); e != api.OK {
			return e
		}
		if named[s.Point] {
			return api.ErrTwice
		}
		named[s.Point] = s.Point != "" // any number of points are helpers
	}
	for _, g := range f.Goals {
		if e := predicate.Right(g, len(f.Steps)); e != api.OK {
			return e
		}
	}
	return api.OK
}

// tooLarge reports whether f has too many points or goals.
func tooLarge(f api.Figure) bool { return len(f.Steps) > api.MaxPoints || len(f.Goals) > api.MaxGoals }

// checkStep returns the error of a step behind so many points, whatever their names are.
func checkStep(s api.Step, points int) api.Errno {
	arity := Arity(s.Kind)
	switch {
	case arity < 0:
		return api.ErrKind
	case len(s.Args) != arity:
		return api.ErrArg
	case !within(s.Args, points):
		return api.ErrRange
	case !rightRatio(s):
		return api.ErrArg
	case s.Point != "" && !lexer.IsName(s.Point):
		return api.ErrName
	}
	return api.OK
}

// within reports whether all arguments are numbers of so many points.
func within(args []int, points int) bool {
	for _, a := range args {
		if a < 0 || a >= points {
			return false
		}
	}
	return true
}

// rightRatio reports whether s has a valid Ratio, or the zero value if its kind has none.
func rightRatio(s api.Step) bool {
	if s.Kind == api.StepDivide {
		return rational.Right(s.Ratio)
	}
	num := s.Ratio.Num
	return !num.Neg && len(num.Abs) == 0 && len(s.Ratio.Den) == 0
}
