package scope_test

import (
	"strings"
	"testing"

	"geoprover/api"
	"geoprover/lexer"
	"geoprover/rational"
	"geoprover/scope"
)

// expectRename fails unless Rename returns want.
func expectRename(t *testing.T, p api.Program, from, to string, want api.Program) {
	t.Helper()
	before := show(p)
	got, e := scope.Rename(p, from, to)
	if e != api.OK || show(got) != show(want) {
		t.Fatalf("Rename of %s to %s in %q is %s, %d, want %s", from, to, textOf(t, p), show(got), e, show(want))
	}
	if show(p) != before {
		t.Fatalf("Rename changes %s to %s", before, show(p))
	}
}

// expectRenameError fails unless Rename returns the error e.
func expectRenameError(t *testing.T, p api.Program, from, to string, e api.Errno) {
	t.Helper()
	if got, gotE := scope.Rename(p, from, to); len(got.Stmts) > 0 || gotE != e {
		t.Fatalf("Rename of %s to %s in %q is %s, %d, want the error %d", from, to, textOf(t, p), show(got), gotE, e)
	}
}

// P19.3: the example of the chapter; names of the same length keep the positions.
func TestRename(t *testing.T) {
	p := rightOf(t, "points A, B; M := midpoint(A, B);")
	expectRename(t, p, "A", "P", rightOf(t, "points P, B; M := midpoint(P, B);"))
	expectRename(t, p, "B", "P", rightOf(t, "points A, P; M := midpoint(A, P);"))
	expectRename(t, p, "M", "P", rightOf(t, "points A, B; P := midpoint(A, B);"))
	p = rightOf(t, sample)
	for from, to := range map[string]string{"A": "Z", "B": "b", "C": "X", "D": "F", "E": "a", "l": "k", "c": "o", "m": "n"} {
		expectRename(t, p, from, to, rightOf(t, replaced(sample, from, to)))
	}
}

// replaced returns the source s with the name to instead of from.
func replaced(s, from, to string) string {
	l, _, _ := lexer.All(s)
	text := ""
	for i, x := range l {
		word := x.Text
		if word == from {
			word = to
		}
		if i > 0 {
			text += s[l[i-1].End:x.Pos]
		}
		text += word
	}
	return text
}

// P19.3: names in goals, deep in expressions, several times, and with ratios; positions stay.
func TestRenameEverywhere(t *testing.T) {
	p := rightOf(t, "points A, B; D := divide(A, divide(A, midpoint(B, A), -2/3), 5); circle c := circle(A, on(circle(B, A))); prove ratio(A, on(c), foot(A, line(A, D)), A, 1/7); points AA, a;")
	q, e := scope.Rename(p, "A", "LongerName")
	if e != api.OK {
		t.Fatalf("the error is %d", e)
	}
	want := "points LongerName, B;\nD := divide(LongerName, divide(LongerName, midpoint(B, LongerName), -2/3), 5);\ncircle c := circle(LongerName, on(circle(B, LongerName)));\nprove ratio(LongerName, on(c), foot(LongerName, line(LongerName, D)), LongerName, 1/7);\npoints AA, a;\n"
	if got := textOf(t, q); got != want {
		t.Errorf("the text is %q", got)
	}
	if got := strings.ReplaceAll(show(q), "LongerName", "A"); got != show(p) {
		t.Errorf("apart from the name, %s becomes %s", show(p), got)
	}
}

// P19.3: the same name.
func TestRenameToItself(t *testing.T) {
	p := rightOf(t, sample)
	for _, d := range definitions(p.Stmts) {
		expectRename(t, p, d.name, d.name, p)
	}
}

// P19.3: errors, and their order.
func TestRenameErrors(t *testing.T) {
	p := rightOf(t, sample)
	all := append(definitions(p.Stmts), definition{name: "X"})
	wrong := []string{"", "on", "points", "circle", "1", "1A", "a_b", "A ", " A", "A,B", "é", strings.Repeat("x", api.MaxName+1)}
	for _, from := range append([]string{"X", "a", "M", "L"}, wrong...) {
		for _, d := range all {
			expectRenameError(t, p, from, d.name, api.ErrName)
		}
		for _, to := range append([]string{from, "Y"}, wrong...) {
			expectRenameError(t, p, from, to, api.ErrName)
		}
		expectRenameError(t, api.Program{}, from, "Y", api.ErrName)
	}
	for _, d := range definitions(p.Stmts) {
		for _, to := range wrong {
			expectRenameError(t, p, d.name, to, api.ErrArg)
		}
		for _, other := range definitions(p.Stmts) {
			if other.name != d.name {
				expectRenameError(t, p, d.name, other.name, api.ErrTwice)
			}
		}
		longest := strings.Repeat("x", api.MaxName)
		if _, e := scope.Rename(p, d.name, longest); e != api.OK {
			t.Errorf("Rename of %s to a name of %d bytes returns %d", d.name, api.MaxName, e)
		}
	}
}

// P19.3: random programs, against their texts with the other name.
func TestRenameRandom(t *testing.T) {
	r := newSource()
	for range rounds {
		p := randomProgram(t, r, 10)
		all := definitions(p.Stmts)
		from, to := all[r.Intn(len(all))].name, pool()[r.Intn(len(pool()))]
		q, e := scope.Rename(p, from, to)
		taken := false
		for _, d := range all {
			taken = taken || d.name == to && to != from
		}
		if taken {
			expectRenameError(t, p, from, to, api.ErrTwice)
			continue
		}
		if e != api.OK {
			t.Fatalf("Rename of %s to %s in %q returns %d", from, to, textOf(t, p), e)
		}
		if got, want := textOf(t, q), replaced(textOf(t, p), from, to); got != want {
			t.Fatalf("Rename of %s to %s in %q is %q, want %q", from, to, textOf(t, p), got, want)
		}
		if got, want := show(places(q)), show(places(p)); got != want {
			t.Fatalf("Rename of %s to %s in %q changes the positions %s to %s", from, to, textOf(t, p), want, got)
		}
	}
}

// places returns the positions of all statements and expressions of p.
func places(p api.Program) []int {
	var l []int
	var add func(x api.Expr)
	add = func(x api.Expr) {
		l = append(l, x.Pos)
		for _, a := range x.Args {
			add(a)
		}
	}
	for _, s := range p.Stmts {
		l = append(l, s.Pos)
		add(s.Expr)
	}
	return l
}

// P19.3: the result shares no memory with the program.
func TestRenamedIsNew(t *testing.T) {
	p := rightOf(t, "points A, B; D := divide(A, B, 2/3); prove ratio(A, B, B, D, 4);")
	before := show(p)
	q, _ := scope.Rename(p, "A", "C")
	for i := range q.Stmts {
		s := &q.Stmts[i]
		for k := range s.Names {
			s.Names[k] = "X"
		}
		for k := range s.Expr.Args {
			s.Expr.Args[k].Name = "X"
		}
		clear(s.Expr.Ratio.Num.Abs)
		clear(s.Expr.Ratio.Den)
		*s = api.Stmt{}
	}
	if show(p) != before {
		t.Errorf("the program %s has become %s", before, show(p))
	}
	if rational.Text(p.Stmts[1].Expr.Ratio) != "2/3" {
		t.Error("the ratio is not 2/3")
	}
}
