package ast

import (
	"slices"

	"geoprover/api"
)

// Sorts of parameters.
const (
	point        = api.SortPoint
	line         = api.SortLine
	circle       = api.SortCircle
	lineOrCircle = api.SortNone
)

// shape is a row of the table of the kinds: a sort, a word, and the sorts of the parameters.
type shape struct {
	sort   int
	word   string
	params []int
}

// shapeOf returns the row of a kind, the zero value for ExName and for numbers that are not kinds.
func shapeOf(kind int) shape {
	if word, params := pointShape(kind); word != "" {
		return shape{api.SortPoint, word, params}
	}
	if word, params := lineShape(kind); word != "" {
		return shape{api.SortLine, word, params}
	}
	if word, params := circleShape(kind); word != "" {
		return shape{api.SortCircle, word, params}
	}
	if word, params := goalShape(kind); word != "" {
		return shape{api.SortGoal, word, params}
	}
	return shape{}
}

// pointShape returns the word and the parameters of a kind of points.
func pointShape(kind int) (word string, params []int) {
	switch kind {
	case api.ExMidpoint:
		return "midpoint", points(2)
	case api.ExDivide:
		return "divide", points(2)
	case api.ExReflect:
		return "reflect", points(2)
	case api.ExMirror:
		return "mirror", []int{point, line}
	case api.ExFoot:
		return "foot", []int{point, line}
	case api.ExMeet:
		return "meet", []int{line, line}
	case api.ExOn:
		return "on", []int{lineOrCircle}
	case api.ExOther:
		return "other", points(3)
	case api.ExCommon:
		return "common", points(3)
	case api.ExCenter:
		return "center", points(3)
	case api.ExShift:
		return "shift", points(3)
	case api.ExTurn:
		return "turn", points(2)
	case api.ExCut:
		return "cut", []int{line, circle}
	case api.ExCross:
		return "cross", []int{circle, circle}
	case api.ExApex:
		return "apex", points(2)
	}
	return "", nil
}

// lineShape returns the word and the parameters of a kind of lines.
func lineShape(kind int) (word string, params []int) {
	switch kind {
	case api.ExLine:
		return "line", points(2)
	case api.ExParallel:
		return "parallel", []int{point, line}
	case api.ExPerpendicular:
		return "perpendicular", []int{point, line}
	case api.ExBisector:
		return "bisector", points(2)
	}
	return "", nil
}

// circleShape returns the word and the parameters of a kind of circles.
func circleShape(kind int) (word string, params []int) {
	switch kind {
	case api.ExCircle:
		return "circle", points(2)
	case api.ExCircum:
		return "circum", points(3)
	}
	return "", nil
}

// goalShape returns the word and the parameters of a kind of goals.
func goalShape(kind int) (word string, params []int) {
	switch kind {
	case api.ExIsCollinear:
		return "collinear", points(3)
	case api.ExIsParallel:
		return "parallel", []int{line, line}
	case api.ExIsPerpendicular:
		return "perpendicular", []int{line, line}
	case api.ExIsCongruent:
		return "congruent", points(4)
	case api.ExIsMidpoint:
		return "midpoint", points(3)
	case api.ExIsConcyclic:
		return "concyclic", points(4)
	case api.ExIsAngle:
		return "angle", points(6)
	case api.ExIsSame:
		return "same", points(2)
	case api.ExIsRatio:
		return "ratio", points(4)
	}
	return "", nil
}

// points returns n parameters of the sort point.
func points(n int) []int { return slices.Repeat([]int{point}, n) }

// hasRatio reports whether expressions of a kind have a Ratio.
func hasRatio(kind int) bool { return kind == api.ExDivide || kind == api.ExIsRatio }

// isOf reports whether expressions of a kind are of a sort. A name can stand for a point, a line or a circle, but not for a goal.
func isOf(kind, sort int) bool {
	switch sort {
	case api.SortPoint, api.SortLine, api.SortCircle:
		if kind == api.ExName {
			return true
		}
		fallthrough
	case api.SortGoal:
		return Sort(kind) == sort
	}
	return false
}

// fits reports whether expressions of a kind fit a parameter.
func fits(kind, param int) bool {
	if param == lineOrCircle {
		return isOf(kind, line) || isOf(kind, circle)
	}
	return isOf(kind, param)
}
