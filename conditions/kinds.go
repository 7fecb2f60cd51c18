package conditions

import "geoprover/api"

// The numbers of arguments of the kinds of conditions. None of them has a single one.
const (
	slopeArgs = iota
	_
	distinctArgs
	triangleArgs
	crossingArgs
)

// arity returns the number of arguments of a condition of this kind and true, or false if there is no such kind.
func arity(kind int) (int, bool) {
	switch kind {
	case api.CondDistinct:
		return distinctArgs, true
	case api.CondTriangle:
		return triangleArgs, true
	case api.CondCrossing:
		return crossingArgs, true
	case api.CondSlope:
		return slopeArgs, true
	}
	return 0, false
}

// about returns OK if c is a condition about a list of so many points.
func about(c api.Condition, points int) api.Errno {
	want, ok := arity(c.Kind)
	switch {
	case !ok:
		return api.ErrKind
	case len(c.Args) != want:
		return api.ErrArg
	}
	for _, a := range c.Args {
		if a < 0 || a >= points {
			return api.ErrRange
		}
	}
	return api.OK
}

// ofStep returns the condition of the step i of f and true, or false if there is no such step, or it has none.
func ofStep(f api.Figure, i int) (api.Condition, bool) {
	if i < 0 || i >= len(f.Steps) {
		return api.Condition{}, false
	}
	s := f.Steps[i]
	kind, places := shape(s.Kind)
	c := api.Condition{Kind: kind, Step: i}
	for _, k := range places {
		if k >= len(s.Args) {
			return api.Condition{}, false
		}
		c.Args = append(c.Args, s.Args[k])
	}
	return c, kind != 0
}

// shape returns the kind of the condition of a step of this kind, and which arguments of the step are its own, or 0 if it has none.
func shape(step int) (kind int, places []int) {
	switch step {
	case api.StepOnCircle:
		return api.CondSlope, nil
	case api.StepFoot, api.StepMirror:
		return api.CondDistinct, []int{1, 2}
	case api.StepMeet:
		return api.CondCrossing, []int{0, 1, 2, 3}
	case api.StepOther, api.StepCut, api.StepApex:
		return api.CondDistinct, []int{0, 1}
	case api.StepCenter:
		return api.CondTriangle, []int{0, 1, 2}
	case api.StepCross:
		return api.CondDistinct, []int{0, 2}
	}
	return 0, nil
}
