package wu_test

import (
	"strconv"
	"strings"

	"geoprover/api"
)

// builder collects the steps of a figure with long points.
type builder struct{ steps []string }

// begin returns a builder with the points 0 = (0, 0), 1 = (v0, 0), 2 = (v0 v1, 0), 3 = (v0 v2, 0), 4 = (0, v0 v2) and 5 = (0, v0).
func begin() *builder {
	return &builder{strings.Split("free, free, online 0 1, online 0 1, turn 0 0 3, turn 0 0 1", ", ")}
}

// add appends a step with these arguments, and returns its point.
func (b *builder) add(word string, args ...int) int {
	for _, a := range args {
		word += " " + strconv.Itoa(a)
	}
	b.steps = append(b.steps, word)
	return len(b.steps) - 1
}

// long appends a point whose coordinates have n terms for each term of those of the point start, and returns it.
func (b *builder) long(start, n int) int {
	point := start
	for _, bit := range strconv.FormatInt(int64(n), 2)[1:] {
		point = b.add("online", point, 0) // A - t A
		if bit == '1' {
			point = b.sum(point, b.add("online", 0, start))
		}
	}
	return point
}

// sum appends the point P + Q, and returns it.
func (b *builder) sum(p, q int) int { return b.add("shift", p, 0, q) }

// figure returns the figure of the steps, and of these goals.
func (b *builder) figure(goals string) api.Figure {
	return figure(strings.Join(b.steps, ", ") + " | " + goals)
}

// largeChain returns a figure whose polynomials all have few terms, but which has no chain: in the foot of (p, 0) on the line from (0, 0) to (a, v0), the coordinate y is eliminated.
func largeChain() api.Figure {
	b := begin()
	a := b.sum(b.long(2, 20), 5)
	p := b.long(3, 190)
	x := strconv.Itoa(b.add("foot", p, 0, a))
	return b.figure("collinear 0 " + x + " " + strconv.Itoa(a) + ", same 0 1")
}

// largeRest returns a figure with the goal n (x - m), where x is reduced to 0 by an initial with two terms, and so n m is multiplied by it.
func largeRest(m, n int) api.Figure {
	b := begin()
	line := b.sum(b.add("online", 4, 0), 1)
	x := b.add("meet", 0, line, 0, 1)
	p := b.long(2, m)
	q := b.sum(p, b.long(4, n))
	return b.figure("collinear " + strconv.Itoa(p) + " " + strconv.Itoa(x) + " " + strconv.Itoa(q))
}

// longCofactor returns a figure with the goal n x, where x is the first coordinate of the intersection of the line to (a, v0) and the axis: a cofactor is a n. Here a has two terms, and n has this many; if repeat is set, two of these are those of a.
func longCofactor(n int, repeat bool) api.Figure {
	b := begin()
	a := b.add("online", 1, 0)
	x := b.add("meet", 0, b.sum(a, 5), 0, 1)
	end := 0
	if repeat {
		n -= 2
		end = b.add("turn", 0, 0, a)
	}
	end = b.sum(end, b.long(4, n))
	return b.figure("collinear 0 " + strconv.Itoa(x) + " " + strconv.Itoa(end))
}
