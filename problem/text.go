package problem

import (
	"strconv"
	"strings"

	"geoprover/api"
	"geoprover/coordinates"
	"geoprover/lower"
	"geoprover/polytext"
)

// Text returns the text of the right problem p. The errors are those of problems that are not right: ErrMismatch if its frame is not about the points of its figure, and those of polytext.Print.
func Text(p api.Problem) (string, api.Errno) {
	if len(p.Frame.Coords) != len(p.Figure.Steps) {
		return "", api.ErrMismatch
	}
	w := writer{names: names{points: lower.Names(p.Figure), variables: coordinates.Names(p.Figure, p.Frame)}}
	for i, c := range p.Frame.Coords {
		w.line("point", w.points[i], "["+w.poly(c.X)+"]", "["+w.poly(c.Y)+"]")
	}
	for _, h := range p.Hyps {
		w.line("hyp", w.poly(h))
	}
	for _, c := range p.Conds {
		w.line("cond", w.poly(c))
	}
	for n, g := range p.Goals {
		for _, q := range g {
			w.line("goal", strconv.Itoa(n), w.poly(q))
		}
	}
	if w.failed != api.OK {
		return "", w.failed
	}
	return w.text.String(), api.OK
}

// writer assembles a text of lines in which points and polynomials are written with names.
type writer struct {
	names
	text strings.Builder
}

// line appends a line of words.
func (w *writer) line(words ...string) {
	w.text.WriteString(strings.Join(words, " "))
	w.text.WriteByte('\n')
}

// names is the names of points and of variables, and the first error that writing with them has met.
type names struct {
	points, variables []string
	failed            api.Errno
}

// poly returns the text of p, or an empty one if it has an error.
func (n *names) poly(p api.Poly) string {
	s, e := polytext.Print(p, n.variables)
	if n.failed == api.OK {
		n.failed = e
	}
	return s
}
