package printer

import (
	"strings"

	"geoprover/api"
	"geoprover/ast"
	"geoprover/rational"
)

// writer writes a text piece by piece. Beyond the greatest length of a source it writes nothing more.
type writer struct {
	written strings.Builder
	large   bool
}

// text returns the text, or ErrLarge if it is too long.
func (w *writer) text() (string, api.Errno) {
	if w.large {
		return "", api.ErrLarge
	}
	return w.written.String(), api.OK
}

// put writes s.
func (w *writer) put(s string) {
	w.large = w.large || w.written.Len()+len(s) > api.MaxSource
	if !w.large {
		w.written.WriteString(s)
	}
}

// stmt writes a right statement.
func (w *writer) stmt(s api.Stmt) {
	write := w.methodOf(s.Kind)
	write(s)
	w.put(";\n")
}

// methodOf returns the method that writes the statements of a kind, without the semicolon.
func (w *writer) methodOf(kind int) func(s api.Stmt) {
	switch kind {
	case api.StPoints:
		return w.points
	case api.StLine:
		return w.line
	case api.StCircle:
		return w.circle
	case api.StProve:
		return w.goal
	}
	return w.point
}

// points writes a StPoints.
func (w *writer) points(s api.Stmt) {
	w.put("points ")
	for i, name := range s.Names {
		w.separate(i)
		w.put(name)
	}
}

// point writes a StPoint.
func (w *writer) point(s api.Stmt) {
	w.put(s.Names[0] + " := ")
	w.expr(s.Expr)
}

// line writes a StLine.
func (w *writer) line(s api.Stmt) {
	w.put("line ")
	w.point(s)
}

// circle writes a StCircle.
func (w *writer) circle(s api.Stmt) {
	w.put("circle ")
	w.point(s)
}

// goal writes a StProve.
func (w *writer) goal(s api.Stmt) {
	w.put("prove ")
	w.expr(s.Expr)
}

// expr writes a right expression.
func (w *writer) expr(x api.Expr) {
	if w.large { // nor does it visit the rest of a large tree
		return
	}
	if x.Kind == api.ExName {
		w.put(x.Name)
		return
	}
	w.put(ast.Word(x.Kind) + "(")
	for i, a := range x.Args {
		w.separate(i)
		w.expr(a)
	}
	if hasRatio(x.Kind) {
		w.separate(len(x.Args))
		w.put(rational.Text(x.Ratio))
	}
	w.put(")")
}

// separate writes what stands before the element i of a list.
func (w *writer) separate(i int) {
	if i > 0 {
		w.put(", ")
	}
}

// hasRatio reports whether expressions of a kind have a Ratio.
func hasRatio(kind int) bool { return kind == api.ExDivide || kind == api.ExIsRatio }
