package conditions

import (
	"strings"

	"geoprover/api"
)

// Text returns the text of c, in which the argument i has the name names[i]. Otherwise it returns the error of Holds for as many points, or ErrRange if there is no name for the point of a CondSlope.
func Text(c api.Condition, names []string) (string, api.Errno) {
	if e := about(c, len(names)); e != api.OK {
		return "", e
	}
	arg := func(k int) string { return names[c.Args[k]] }
	switch c.Kind {
	case api.CondDistinct:
		return joined(arg(0), "!=", arg(1)), api.OK
	case api.CondTriangle:
		return joined(arg(0)+",", arg(1)+",", arg(2), "are not collinear"), api.OK
	case api.CondCrossing:
		return joined(line(arg(0), arg(1)), "and", line(arg(2), arg(3)), "are not parallel"), api.OK
	}
	if c.Step < 0 || c.Step >= len(names) {
		return "", api.ErrRange
	}
	return joined("slope of", names[c.Step]), api.OK
}

// line returns the text of the line through two points. Only names of one byte can be told apart without a space.
func line(a, b string) string {
	if len(a) > 1 || len(b) > 1 {
		return "(" + joined(a, b) + ")"
	}
	return a + b
}

// joined returns the parts with spaces between them.
func joined(parts ...string) string { return strings.Join(parts, " ") }
