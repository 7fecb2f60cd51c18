package printer_test

import (
	"strings"
	"testing"

	"geoprover/api"
	"geoprover/ast"
	"geoprover/parser"
	"geoprover/printer"
)

// P18.3
func TestRoundTrip(t *testing.T) {
	r := newSource()
	for range rounds {
		p := randomProgram(r, 6)
		s := textOf(t, p)
		if q := programOf(t, s); !ast.Equal(p, q) {
			t.Fatalf("%q is read as %v", s, q)
		}
		sort := api.SortPoint + r.Intn(3)
		x := randomExpr(r, sort, 1+r.Intn(5), true)
		s, e := printer.Expr(x)
		if e != api.OK {
			t.Fatalf("the expression %v has the error %d", x, e)
		}
		if y, at, e := parser.Expr(s); at != 0 || e != api.OK || !ast.EqualExpr(x, y) {
			t.Fatalf("%q is read as %v, %d, %d", s, y, at, e)
		}
	}
}

// P18.3: each kind, the greatest depth and the longest numbers.
func TestRoundTripBounds(t *testing.T) {
	most := strings.Repeat("9", api.MaxDigits)
	l := []api.Expr{tower(api.MaxDepth), withRatio(tree(api.ExDivide, names("A B")...), number("-"+most+"/"+most[1:]+"8"))}
	for sort := api.SortPoint; sort <= api.SortGoal; sort++ {
		for _, kind := range kindsOf(sort) {
			x := tree(kind, names("A B C D E F")[:len(ast.Params(kind))]...)
			if kind == api.ExDivide || kind == api.ExIsRatio {
				x.Ratio = number("-3/8")
			}
			l = append(l, x)
		}
	}
	for _, x := range l {
		p := program(prove(x))
		if sort := ast.Sort(x.Kind); sort != api.SortGoal {
			p = program(define(sort+1, "X", x))
		}
		if q := programOf(t, textOf(t, p)); !ast.Equal(p, q) {
			t.Errorf("%v is read as %v", p, q)
		}
	}
}

// P18.3: a number of more than MaxDigits digits is printed, but not read back.
func TestLongNumbers(t *testing.T) {
	x := withRatio(tree(api.ExDivide, names("A B")...), power(api.MaxDigits))
	s, e := printer.Expr(x)
	if e != api.OK {
		t.Fatalf("the text has the error %d", e)
	}
	if _, at, e := parser.Expr(s); at != len("divide(A, B, ") || e != api.ErrLarge {
		t.Errorf("the number is read with %d, %d", at, e)
	}
}

// P18.3: a text of the greatest length is read back.
func TestLongRoundTrip(t *testing.T) {
	var stmts []api.Stmt
	for range api.MaxSource / 10 {
		stmts = append(stmts, points("A"))
	}
	p := program(stmts...)
	if s := textOf(t, p); len(s) != api.MaxSource || !ast.Equal(p, programOf(t, s)) {
		t.Errorf("a text of %d bytes is not read back", len(s))
	}
}

// P18.4
func TestOneForm(t *testing.T) {
	for _, s := range []string{
		"", "#", "points A,B;C:=apex(A,B);prove congruent(A,C,B,C);", "D:=divide(A,B,-4/6);", "D:=divide(A,B,-0/6);# x\n\n\nline\tl:=line(D , A)\r\n;",
		"prove ratio(A,B,C,D,- 10 / 5);", "prove parallel(parallel(A,l),m);",
	} {
		text := textOf(t, programOf(t, s))
		if again := textOf(t, programOf(t, text)); again != text {
			t.Errorf("%q has the text %q, which becomes %q", s, text, again)
		}
	}
	r := newSource()
	for range rounds {
		text := strings.NewReplacer(" ", "  ", ";", "#;\n;", "(", "( ").Replace(textOf(t, randomProgram(r, 5)))
		text = textOf(t, programOf(t, text))
		if again := textOf(t, programOf(t, text)); again != text {
			t.Fatalf("%q becomes %q", text, again)
		}
	}
}

// P18.4: a text that is longer than its source can be too long.
func TestLongerThanSource(t *testing.T) {
	s := "points A" + strings.Repeat(",A", (api.MaxSource-9)/2) + ";"
	expectProgramError(t, api.ErrLarge, programOf(t, s).Stmts...)
	s = "points A" + strings.Repeat(",A", (api.MaxSource-10)/3) + ";"
	if got := textOf(t, programOf(t, s)); len(got) <= len(s) || len(got) > api.MaxSource {
		t.Errorf("a source of %d bytes has a text of %d bytes", len(s), len(got))
	}
}

// P18.5
func TestLines(t *testing.T) {
	r := newSource()
	for range rounds {
		p, q := randomProgram(r, 5), randomProgram(r, 5)
		a, b := textOf(t, p), textOf(t, q)
		if n := strings.Count(a, "\n"); n != len(p.Stmts) || a != "" && !strings.HasSuffix(a, ";\n") {
			t.Fatalf("%d statements have the text %q", len(p.Stmts), a)
		}
		expectProgram(t, a+b, append(p.Stmts, q.Stmts...)...)
	}
}
