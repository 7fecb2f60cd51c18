package lower

import (
	"geoprover/api"
	"geoprover/ast"
	"geoprover/fresh"
	"geoprover/rational"
)

// translator translates the statements and expressions of a right program. Its function add appends a step to the figure, and returns the number of the point.
type translator struct {
	add     func(s api.Step) int
	objects map[string]object
}

// object is what a name stands for: its sort, and the points that it yields.
type object struct {
	sort   int
	points []int
}

// define translates a statement that defines names.
func (t translator) define(s api.Stmt) {
	switch s.Kind {
	case api.StPoints:
		for _, name := range s.Names {
			t.definePoint(name, api.Step{Kind: api.StepFree})
		}
	case api.StPoint:
		t.definePoint(s.Names[0], t.step(s.Expr))
	default:
		t.objects[s.Names[0]] = object{ast.Sort(s.Expr.Kind), t.points(s.Expr)}
	}
}

// definePoint appends the step of a point that has a name.
func (t translator) definePoint(name string, s api.Step) {
	s.Point = name
	t.objects[name] = object{api.SortPoint, []int{t.add(s)}}
}

// goal translates a goal.
func (t translator) goal(x api.Expr) api.Fact {
	n := t.numbers(x)
	if x.Kind == api.ExIsAngle { // at the second point of three the full angle from the first one to the third
		n = []int{n[1], n[0], n[1], n[2], n[4], n[3], n[4], n[5]}
	}
	kind := x.Kind - api.ExIsCollinear + api.FactCollinear // goals and facts stand in the same order
	return api.Fact{Kind: kind, Args: n, Ratio: fresh.Rat(x.Ratio)}
}

// points returns the points that an expression of a point, a line or a circle yields.
func (t translator) points(x api.Expr) []int {
	switch ast.Sort(x.Kind) {
	case api.SortPoint:
		return []int{t.add(t.step(x))}
	case api.SortLine:
		return t.line(x)
	case api.SortCircle:
		return t.circle(x)
	}
	return t.objects[x.Name].points
}

// numbers returns the points that the arguments of a construction yield, one behind the other.
func (t translator) numbers(x api.Expr) []int {
	var l []int
	for _, a := range x.Args {
		l = append(l, t.points(a)...)
	}
	return l
}

// line returns the points that a construction of a line yields.
func (t translator) line(x api.Expr) []int {
	n := t.numbers(x)
	switch x.Kind {
	case api.ExParallel:
		return []int{n[0], t.add(api.Step{Kind: api.StepShift, Args: n})}
	case api.ExPerpendicular:
		return []int{n[0], t.add(api.Step{Kind: api.StepTurn, Args: n})}
	case api.ExBisector:
		m := t.add(divide(n, rational.Frac(1, 2)))
		return []int{m, t.add(api.Step{Kind: api.StepTurn, Args: []int{m, n[0], n[1]}})}
	}
	return n
}

// circle returns the points that a construction of a circle yields.
func (t translator) circle(x api.Expr) []int {
	n := t.numbers(x)
	if x.Kind == api.ExCircum {
		return []int{t.add(api.Step{Kind: api.StepCenter, Args: n}), n[0]}
	}
	return n
}

// step translates the arguments of a construction of a point, and returns its own step.
func (t translator) step(x api.Expr) api.Step {
	n := t.numbers(x)
	switch x.Kind {
	case api.ExMidpoint:
		return divide(n, rational.Frac(1, 2))
	case api.ExDivide:
		return divide(n, fresh.Rat(x.Ratio))
	case api.ExReflect:
		return divide(n, rational.Of(2))
	case api.ExOn:
		return api.Step{Kind: t.onKind(x.Args[0]), Args: n}
	case api.ExTurn:
		return api.Step{Kind: api.StepTurn, Args: []int{n[0], n[0], n[1]}}
	}
	return api.Step{Kind: stepKind(x.Kind), Args: n}
}

// divide returns the StepDivide of two points.
func divide(n []int, ratio api.Rat) api.Step {
	return api.Step{Kind: api.StepDivide, Args: n, Ratio: ratio}
}

// onKind returns the kind of the step of a point on a line or a circle.
func (t translator) onKind(x api.Expr) int {
	sort := ast.Sort(x.Kind)
	if x.Kind == api.ExName {
		sort = t.objects[x.Name].sort
	}
	if sort == api.SortCircle {
		return api.StepOnCircle
	}
	return api.StepOnLine
}

// stepKind returns the kind of steps that a kind of constructions appends if its numbers are the arguments, and there is no Ratio.
func stepKind(kind int) int {
	switch kind {
	case api.ExMirror, api.ExCommon:
		return api.StepMirror
	case api.ExFoot:
		return api.StepFoot
	case api.ExMeet:
		return api.StepMeet
	case api.ExOther:
		return api.StepOther
	case api.ExCenter:
		return api.StepCenter
	case api.ExShift:
		return api.StepShift
	case api.ExCut:
		return api.StepCut
	case api.ExCross:
		return api.StepCross
	}
	return api.StepApex
}
