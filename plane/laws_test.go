package plane_test

import (
	"testing"

	"geoprover/api"
	"geoprover/plane"
)

// turnAll returns the images of points: of each point Z, Turn(c, d, Z).
func turnAll(c, d api.Point, l []api.Point) []api.Point {
	var images []api.Point
	for _, z := range l {
		images = append(images, plane.Turn(c, d, z))
	}
	return images
}

// P13.8: constructions commute with rotations and translations.
func TestSimilarity(t *testing.T) {
	r := newSource()
	for range rounds / 2 {
		ends := randomPoints(r, 2)
		c, d := ends[0], ends[1]
		for _, k := range constructions() {
			p := randomPoints(r, k.points)
			switch k.name {
			case "Cut":
				p = cutArguments(r)
			case "Intersect":
				p = crossArguments(r)
			}
			s, choice := randomNumber(r), r.Intn(2) == 0
			x, e := k.make(p, s, choice)
			image, e2 := k.make(turnAll(c, d, p), s, choice)
			if e != e2 || e == api.OK && !plane.Equal(plane.Turn(c, d, x), image) {
				t.Fatalf("%s of %s returns %s, %d; for the images %s, %d", k.name, showAll(p), show(x), e, show(image), e2)
			}
		}
	}
}

// P13.8: scalar products and determinants are the same for the images.
func TestSimilarityNumbers(t *testing.T) {
	r := newSource()
	for range rounds {
		l := randomPoints(r, 6)
		p, q := l[:4], turnAll(l[4], l[5], l[:4])
		what := " of the images of " + showAll(p)
		expectNumber(t, "Dot"+what, plane.Dot(q[0], q[1], q[2], q[3]), toBig(plane.Dot(p[0], p[1], p[2], p[3])))
		expectNumber(t, "Cross"+what, plane.Cross(q[0], q[1], q[2], q[3]), toBig(plane.Cross(p[0], p[1], p[2], p[3])))
		expectNumber(t, "Norm"+what, plane.Norm(q[0], q[1]), toBig(plane.Norm(p[0], p[1])))
		if plane.Equal(q[0], q[1]) != plane.Equal(p[0], p[1]) {
			t.Fatalf("Equal%s", what)
		}
	}
}
