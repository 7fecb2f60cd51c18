package instance

import (
	"geoprover/api"
	"geoprover/fresh"
	"geoprover/plane"
	"geoprover/rational"
)

// construction is an instance that grows step by step, the values and the branches that no step has taken yet, and the number of free points so far.
type construction struct {
	api.Instance
	values   []api.Rat
	branches []bool
	free     int
}

// point returns the point of the next step, which is s.
func (c *construction) point(s api.Step) (api.Point, api.Errno) {
	arg := func(k int) api.Point { return c.Points[s.Args[k]] }
	switch s.Kind {
	case api.StepFree:
		return c.freePoint(), api.OK
	case api.StepDivide:
		return plane.Divide(arg(0), arg(1), s.Ratio), api.OK
	case api.StepShift:
		return plane.Shift(arg(0), arg(1), arg(2)), api.OK
	case api.StepTurn:
		return plane.Turn(arg(0), arg(1), arg(2)), api.OK
	case api.StepOnLine:
		return plane.Divide(arg(0), arg(1), c.value()), api.OK
	case api.StepOnCircle:
		return plane.OnCircle(arg(0), arg(1), c.value()), api.OK
	case api.StepFoot:
		return plane.Foot(arg(0), arg(1), arg(2))
	case api.StepMirror:
		return plane.Mirror(arg(0), arg(1), arg(2))
	case api.StepMeet:
		return plane.Meet(arg(0), arg(1), arg(2), arg(3))
	case api.StepOther:
		return plane.Other(arg(0), arg(1), arg(2))
	case api.StepCenter:
		return plane.Center(arg(0), arg(1), arg(2))
	case api.StepCut:
		return plane.Cut(arg(0), arg(1), arg(2), arg(3), c.branch())
	case api.StepCross:
		return plane.Intersect(arg(0), arg(1), arg(2), arg(3), c.branch())
	}
	return plane.Apex(arg(0), arg(1), c.branch())
}

// freePoint returns the next free point: the first two are on the first axis, and the first one is its origin.
func (c *construction) freePoint() api.Point {
	p := api.Point{X: rational.Of(0), Y: rational.Of(0)}
	if c.free > 0 {
		p.X = c.value()
	}
	if c.free > 1 {
		p.Y = c.value()
	}
	c.free++
	return p
}

// value takes the next value.
func (c *construction) value() api.Rat {
	a := c.values[0]
	c.values = c.values[1:]
	return fresh.Rat(a)
}

// branch takes the next branch.
func (c *construction) branch() bool {
	b := c.branches[0]
	c.branches = c.branches[1:]
	return b
}
