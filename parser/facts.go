package parser

import (
	"slices"
	"strings"

	"geoprover/api"
	"geoprover/rational"
)

// The bytes that separate the parts of a fact, and those that are parts of their own.
const (
	blanks = " \t\r\n"
	signs  = "(),"
)

// split returns the parts of s as tokens: signs, names (all other parts, whatever they contain), and the end.
func split(s string) []api.Token {
	var l []api.Token
	at := skip(s, 0)
	for at < len(s) {
		t := part(s, at)
		l = append(l, t)
		at = skip(s, t.End)
	}
	return append(l, api.Token{Kind: api.TkEnd, Pos: at, End: at})
}

// skip returns the offset behind the blanks that follow one another from the offset at on.
func skip(s string, at int) int {
	return len(s) - len(strings.TrimLeft(s[at:], blanks))
}

// part returns the part of s that begins at the offset at, where there is neither a blank nor the end.
func part(s string, at int) api.Token {
	kind, size := api.TkName, strings.IndexAny(s[at:], blanks+signs)
	switch {
	case size == 0:
		kind, size = api.TkSign, 1
	case size < 0:
		size = len(s) - at
	}
	return api.Token{Kind: kind, Pos: at, End: at + size, Text: s[at : at+size]}
}

// facts reads facts about points with these names.
type facts struct {
	*cursor
	names []string
}

// fact reads a fact.
func (r facts) fact() (api.Fact, bool) {
	kind, arity := factKind(r.token().Text)
	if kind == 0 {
		return api.Fact{}, r.refuse()
	}
	r.next++
	f, ok := api.Fact{Kind: kind}, r.expect("(")
	if ok {
		f.Args, ok = r.points(arity)
	}
	if ok && kind == api.FactAngle {
		f.Args, ok = r.angle(f.Args)
	}
	if ok && kind == api.FactRatio {
		f.Ratio, ok = r.ratio()
	}
	return f, ok && r.expect(")")
}

// points reads n names, and returns the indices of the points.
func (r facts) points(n int) ([]int, bool) {
	l := make([]int, n)
	ok := r.list(n, func(i int) (ok bool) {
		l[i], ok = r.point()
		return ok
	})
	return l, ok
}

// point reads a name, and returns the index of the point.
func (r facts) point() (int, bool) {
	t := r.token()
	i := slices.Index(r.names, t.Text)
	switch {
	case t.Kind == api.TkEnd: // a point without a name does not stand at the end
		return 0, r.refuse()
	case i >= 0:
		r.next++
		return i, true
	case t.Kind == api.TkSign:
		return 0, r.refuse()
	}
	return 0, r.fail(t.Pos, api.ErrName)
}

// angle reads what follows the first six names of an angle: two more names, or none if the six are two angles A B C and D E F. It returns the arguments of the fact.
func (r facts) angle(p []int) ([]int, bool) {
	if !r.skip(",") {
		return []int{p[1], p[0], p[1], p[2], p[4], p[3], p[4], p[5]}, true
	}
	last, ok := r.points(2)
	return append(p, last...), ok
}

// ratio reads the number behind the last name, with the comma before it.
func (r facts) ratio() (api.Rat, bool) {
	if !r.expect(",") {
		return api.Rat{}, false
	}
	t := r.token()
	if t.Kind != api.TkName {
		return api.Rat{}, r.refuse()
	}
	r.next++
	x, e := rational.Read(t.Text)
	return x, e == api.OK || r.fail(t.Pos, e)
}

// factKind returns the kind of facts with this word, and how many names they have (an angle: at least), 0 if there is none.
func factKind(word string) (kind, names int) {
	switch word {
	case "collinear":
		return api.FactCollinear, 3
	case "parallel":
		return api.FactParallel, 4
	case "perpendicular":
		return api.FactPerpendicular, 4
	case "congruent":
		return api.FactCongruent, 4
	case "midpoint":
		return api.FactMidpoint, 3
	case "concyclic":
		return api.FactConcyclic, 4
	case "angle":
		return api.FactAngle, 6
	case "same":
		return api.FactSame, 2
	case "ratio":
		return api.FactRatio, 4
	}
	return 0, 0
}
