package ideal_test

import (
	"math"
	"testing"

	"geoprover/api"
	"geoprover/ideal"
	"geoprover/poly"
	"geoprover/rational"
)

// P10.3
func TestCheck(t *testing.T) {
	for _, x := range []struct {
		c    api.Certificate
		hyps string
		goal string
		want api.Errno
	}{
		{certificate("x", []int{1}, 1, "1"), "x*y", "y", api.OK},
		{certificate("", nil, 1, "0, 0"), "x, y", "0", api.OK},
		{certificate("", nil, 1, ""), "", "0", api.OK},
		{certificate("", nil, 64, ""), "", "0", api.OK},
		{certificate("x", []int{0}, 1, ""), "", "0", api.OK},
		{certificate("x", []int{1}, 1, ""), "", "y", api.ErrFalse},
		{certificate("", nil, 1, ""), "", "1", api.ErrFalse},
		{certificate("", nil, 1, "1"), "x", "x", api.OK},
		{certificate("", nil, 1, "2"), "x", "x", api.ErrFalse},
		{certificate("", nil, 1, "-1"), "x", "x", api.ErrFalse},
		{certificate("", nil, 1, "0"), "x", "x", api.ErrFalse},
		{certificate("", nil, 2, "x"), "x", "x", api.OK},
		{certificate("", nil, 2, "1"), "x^2", "x", api.OK},
		{certificate("", nil, 1, "1"), "x^2", "x", api.ErrFalse},
		{certificate("", nil, 64, "1"), "x^64", "x", api.OK},
		{certificate("x", []int{64}, 64, "x^63"), "x*y^64", "y", api.OK},
		{certificate("x", []int{0}, 1, "1"), "x*y", "y", api.ErrFalse},
		{certificate("x", []int{2}, 1, "1"), "x*y", "y", api.ErrFalse},
		{certificate("x, y", []int{1, 2}, 3, "1, 1"), "x*y^2*z^3 - x, x", "z", api.OK},
		{certificate("x, y", []int{2, 1}, 3, "1, 1"), "x*y^2*z^3 - x, x", "z", api.ErrFalse},
		{certificate("-2/3", []int{2}, 1, "4/9"), "x", "x", api.OK},
		{certificate("-2/3", []int{1}, 1, "4/9"), "x", "x", api.ErrFalse},
		{certificate("x + y", []int{1}, 1, "1, -1"), "x^2, y^2", "x - y", api.OK},
	} {
		if e := ideal.Check(x.c, readAll(x.hyps), read(x.goal)); e != x.want {
			t.Errorf("Check of %s for %s and %s returns %d, want %d", textOf(x.c), x.hyps, x.goal, e, x.want)
		}
	}
}

// P10.3
func TestCheckRandom(t *testing.T) {
	r := newSource()
	for range rounds {
		x := randomTheorem(r)
		if e := ideal.Check(x.c, x.hyps, x.goal); e != api.OK {
			t.Fatalf("Check of %s for %s and %s returns %d", textOf(x.c), textAll(x.hyps), text(x.goal), e)
		}
		k := r.Intn(len(x.hyps))
		if d := randomPoly(r, 2, 2); len(d) > 0 && len(x.hyps[k]) > 0 {
			x.c.Cofactors[k] = poly.Add(x.c.Cofactors[k], d)
			if e := ideal.Check(x.c, x.hyps, x.goal); e != api.ErrFalse {
				t.Fatalf("Check of %s for %s and %s returns %d", textOf(x.c), textAll(x.hyps), text(x.goal), e)
			}
		}
	}
}

// P10.3: of several errors the first one is returned.
func TestCheckErrors(t *testing.T) {
	large, many := dense(0, api.MaxTerms+1), curve(89)
	one := readAll("1")
	for n, x := range []struct {
		factors   []api.Poly
		powers    []int
		power     int
		cofactors []api.Poly
		hyps      []api.Poly
		goal      api.Poly
		want      api.Errno
	}{
		{readAll("x"), nil, 1, one, readAll("y"), read("y"), api.ErrMismatch},
		{nil, []int{0}, 1, one, readAll("y"), read("y"), api.ErrMismatch},
		{readAll("0, 0"), []int{65}, 0, nil, one, large, api.ErrMismatch},
		{readAll("x"), []int{-1}, 1, one, readAll("y"), read("y"), api.ErrRange},
		{readAll("0"), []int{65}, 0, nil, one, large, api.ErrRange},
		{[]api.Poly{large}, []int{65}, 1, one, one, read("1"), api.ErrRange},
		{[]api.Poly{large}, []int{1}, 1, []api.Poly{large}, one, read("1"), api.ErrLarge},
		{[]api.Poly{large, nil}, []int{1, 1}, 0, nil, one, read("0"), api.ErrLarge},
		{[]api.Poly{nil, many}, []int{0, 2}, 0, nil, one, read("0"), api.ErrLarge},
		{readAll("0"), []int{1}, 1, readAll("0"), readAll("x"), read("x"), api.ErrZero},
		{readAll("0"), []int{0}, 1, one, readAll("x"), read("x"), api.ErrZero},
		{readAll("x, 0"), []int{1, 0}, 1, one, readAll("x"), read("1"), api.ErrZero},
		{readAll("0"), []int{1}, 0, nil, one, large, api.ErrZero},
		{readAll("0"), []int{64}, 65, nil, one, large, api.ErrZero},
		{nil, nil, 0, one, one, read("x"), api.ErrRange},
		{nil, nil, 0, readAll("0"), one, read("0"), api.ErrRange},
		{nil, nil, -1, one, one, read("1"), api.ErrRange},
		{nil, nil, 65, one, one, read("1"), api.ErrRange},
		{nil, nil, math.MaxInt, one, one, read("1"), api.ErrRange},
		{nil, nil, math.MinInt, nil, one, large, api.ErrRange},
		{nil, nil, 1, nil, readAll("0"), read("0"), api.ErrMismatch},
		{nil, nil, 1, readAll("0"), nil, read("0"), api.ErrMismatch},
		{nil, nil, 1, one, readAll("x, 0"), read("x"), api.ErrMismatch},
		{nil, nil, 64, nil, []api.Poly{large}, large, api.ErrMismatch},
		{nil, nil, 1, one, []api.Poly{large}, large, api.ErrLarge},
		{nil, nil, 2, []api.Poly{many}, []api.Poly{many}, many, api.ErrLarge},
		{[]api.Poly{many}, []int{1}, 1, []api.Poly{many}, []api.Poly{many}, many, api.ErrLarge},
		{nil, nil, 1, []api.Poly{nil}, []api.Poly{nil}, large, api.ErrLarge},
		{nil, nil, 1, []api.Poly{large}, one, nil, api.ErrLarge},
		{nil, nil, 1, []api.Poly{large, large}, readAll("1, -1"), nil, api.ErrLarge},
		{nil, nil, 1, one, readAll("x"), read("y"), api.ErrFalse},
	} {
		c := api.Certificate{Factors: x.factors, Powers: x.powers, Power: x.power, Cofactors: x.cofactors}
		if e := ideal.Check(c, x.hyps, x.goal); e != x.want {
			t.Errorf("Check of the certificate %d returns %d, want %d", n, e, x.want)
		}
	}
}

// P10.3: the left side has n + n - 1 terms at first, 4 n behind the first multiplication, and 9 in the end.
func TestCheckLarge(t *testing.T) {
	goal := read("x*y + x - y - 1")
	for n, want := range map[int]api.Errno{api.MaxTerms / 4: api.OK, api.MaxTerms/4 + 1: api.ErrLarge} {
		c := api.Certificate{Factors: []api.Poly{dense(0, n)}, Powers: []int{2}, Power: 2, Cofactors: readAll("1")}
		root := poly.Sub(power(0, n), read("1"))
		hyps := []api.Poly{product(root, root, read("y^2 + 2*y + 1"))}
		if e := ideal.Check(c, hyps, goal); e != want {
			t.Errorf("Check with %d terms returns %d, want %d", n, e, want)
		}
	}
}

// P10.4
func TestCancel(t *testing.T) {
	for _, x := range []struct {
		c    api.Certificate
		i    int
		want api.Certificate
	}{
		{certificate("x", []int{2}, 1, "x^2, x*y"), 0, certificate("x", []int{1}, 1, "x, y")},
		{certificate("x", []int{1}, 1, "x, y*x"), 0, certificate("x", []int{0}, 1, "1, y")},
		{certificate("x, y", []int{3, 64}, 5, "x*y"), 1, certificate("x, y", []int{3, 63}, 5, "x")},
		{certificate("x, y", []int{0, 1}, 1, "x*y, 0"), 1, certificate("x, y", []int{0, 0}, 1, "x, 0")},
		{certificate("x", []int{1}, 2, ""), 0, certificate("x", []int{0}, 2, "")},
		{certificate("x", []int{1}, 2, "0, 0"), 0, certificate("x", []int{0}, 2, "0, 0")},
		{certificate("-2/3", []int{2}, 1, "x + 1, 2"), 0, certificate("-2/3", []int{1}, 1, "-3/2*x - 3/2, -3")},
		{certificate("x + y, x - y", []int{1, 1}, 1, "x^2 - y^2"), 0, certificate("x + y, x - y", []int{0, 1}, 1, "x - y")},
		{certificate("2*x + 1, 2*x + 1", []int{1, 1}, 1, "x + 1/2"), 1, certificate("2*x + 1, 2*x + 1", []int{1, 0}, 1, "1/2")},
	} {
		got, ok := ideal.Cancel(x.c, x.i)
		expectCertificate(t, "Cancel of "+textOf(x.c), got, x.want)
		if !ok {
			t.Errorf("Cancel of %s returns false", textOf(x.c))
		}
	}
}

// P10.4
func TestCancelNone(t *testing.T) {
	for _, x := range []struct {
		c api.Certificate
		i int
	}{
		{certificate("x", []int{1}, 1, "x"), -1},
		{certificate("x", []int{1}, 1, "x"), 1},
		{certificate("x", []int{1}, 1, "x"), math.MaxInt},
		{certificate("x", []int{1}, 1, "x"), math.MinInt},
		{certificate("", nil, 1, "x"), 0},
		{certificate("x", []int{0}, 1, "x"), 0},
		{certificate("2", []int{0}, 1, "x"), 0},
		{certificate("x", []int{0}, 1, ""), 0},
		{certificate("x", []int{1}, 1, "y"), 0},
		{certificate("x", []int{1}, 1, "x + 1"), 0},
		{certificate("x", []int{1}, 1, "x, x^2, x*y + 1"), 0},
		{certificate("x", []int{1}, 1, "1, x"), 0},
		{certificate("x, y", []int{1, 1}, 1, "x"), 1},
		{certificate("x^2", []int{1}, 1, "x"), 0},
	} {
		if got, ok := ideal.Cancel(x.c, x.i); !isNone(got) || ok {
			t.Errorf("Cancel of %s at %d returns %s, %t", textOf(x.c), x.i, textOf(got), ok)
		}
	}
}

// P10.5
func TestMinimal(t *testing.T) {
	for _, x := range []struct{ c, want api.Certificate }{
		{certificate("x", []int{2}, 1, "x^2, x*y"), certificate("x", []int{1}, 1, "x, y")},
		{certificate("", nil, 3, "x, 0"), certificate("", nil, 3, "x, 0")},
		{certificate("x", []int{0}, 1, "x"), certificate("", nil, 1, "x")},
		{certificate("x, y, z", []int{0, 1, 0}, 1, "x"), certificate("y", []int{1}, 1, "x")},
		{certificate("2, x", []int{3, 1}, 1, "8*x + 8, y"), certificate("x", []int{1}, 1, "x + 1, 1/8*y")},
		{certificate("-2/3", []int{1}, 1, "x"), certificate("", nil, 1, "-3/2*x")},
		{certificate("-2/3, 2/3, 5", []int{2, 1, 0}, 1, "x"), certificate("", nil, 1, "27/8*x")},
		{certificate("2", []int{64}, 1, "18446744073709551616*x"), certificate("", nil, 1, "x")},
		{certificate("x", []int{3}, 2, "x^3"), certificate("", nil, 2, "1")},
		{certificate("x", []int{3}, 2, "x^5"), certificate("", nil, 2, "x^2")},
		{certificate("x", []int{64}, 64, "x^63"), certificate("x", []int{1}, 64, "1")},
		{certificate("x", []int{64}, 1, ""), certificate("", nil, 1, "")},
		{certificate("x, y", []int{2, 64}, 1, "0, 0"), certificate("", nil, 1, "0, 0")},
		{certificate("x, y", []int{2, 2}, 1, "x*y, x*y^2"), certificate("x, y", []int{1, 1}, 1, "1, y")},
		{certificate("x*y, x", []int{1, 1}, 1, "x*y"), certificate("x", []int{1}, 1, "1")},
		{certificate("x, x*y", []int{1, 1}, 1, "x*y"), certificate("x*y", []int{1}, 1, "y")},
		{certificate("x*y, x", []int{2, 2}, 1, "x^3*y"), certificate("x*y", []int{1}, 1, "1")},
		{certificate("x, x", []int{1, 2}, 1, "x^2"), certificate("x", []int{1}, 1, "1")},
		{certificate("2*x", []int{1}, 1, "x"), certificate("", nil, 1, "1/2")},
		{certificate("y + 1, 3, x", []int{2, 1, 1}, 1, "3*x, 3*x*y"), certificate("y + 1", []int{2}, 1, "1, y")},
	} {
		expectCertificate(t, "Minimal of "+textOf(x.c), ideal.Minimal(x.c), x.want)
	}
}

// P10.5: against the definition, with Cancel.
func TestMinimalRandom(t *testing.T) {
	r := newSource()
	fewer := 0
	for range rounds {
		c := randomTheorem(r).c
		got := ideal.Minimal(c)
		want := minimal(c)
		expectCertificate(t, "Minimal of "+textOf(c), got, want)
		if 0 < len(got.Factors) && len(got.Factors) < len(c.Factors) {
			fewer++
		}
	}
	if fewer < rounds/10 {
		t.Errorf("only %d certificates lose some, but not all of their factors", fewer)
	}
}

// minimal does what Minimal does, by the definition.
func minimal(c api.Certificate) api.Certificate {
	m := api.Certificate{Power: c.Power, Cofactors: c.Cofactors}
	for i, f := range c.Factors {
		switch {
		case poly.Degree(f) == 0:
			for range c.Powers[i] {
				inverse, _ := rational.Div(rational.Of(1), f[0].Coef)
				m.Cofactors = multiples(m.Cofactors, poly.Const(inverse))
			}
		case c.Powers[i] > 0:
			m.Factors, m.Powers = append(m.Factors, f), append(m.Powers, c.Powers[i])
		}
	}
	for i := 0; i < len(m.Factors); i++ {
		less, ok := ideal.Cancel(m, i)
		if !ok {
			continue
		}
		m = less
		if m.Powers[i] == 0 {
			m.Factors, m.Powers = append(m.Factors[:i], m.Factors[i+1:]...), append(m.Powers[:i], m.Powers[i+1:]...)
		}
		i = -1
	}
	return m
}

// P10.6
func TestSame(t *testing.T) {
	l := []api.Certificate{
		{},
		certificate("", nil, 1, ""),
		certificate("x", []int{1}, 1, "x, y"),
		certificate("y", []int{1}, 1, "x, y"),
		certificate("2*x", []int{1}, 1, "x, y"),
		certificate("x, x", []int{1}, 1, "x, y"),
		certificate("", []int{1}, 1, "x, y"),
		certificate("x", []int{2}, 1, "x, y"),
		certificate("x", []int{1, 1}, 1, "x, y"),
		certificate("x", nil, 1, "x, y"),
		certificate("x", []int{1}, 2, "x, y"),
		certificate("x", []int{1}, 1, "x, -y"),
		certificate("x", []int{1}, 1, "y, x"),
		certificate("x", []int{1}, 1, "x"),
		certificate("x", []int{1}, 1, "x, y, 0"),
		certificate("x, y", []int{1, 2}, 1, ""),
		certificate("y, x", []int{1, 2}, 1, ""),
		certificate("x, y", []int{2, 1}, 1, ""),
	}
	for i, a := range l {
		for k, b := range l {
			if ideal.Same(a, b) != (i == k) {
				t.Errorf("Same of %s and %s returns %t", textOf(a), textOf(b), i != k)
			}
		}
	}
	empty := api.Certificate{Factors: []api.Poly{}, Powers: []int{}, Cofactors: []api.Poly{}}
	if !ideal.Same(empty, api.Certificate{}) {
		t.Error("empty lists are not the same as nil")
	}
	if !ideal.Same(certificate("x + 1", []int{1}, 1, "0"), certificate("x + 1", []int{1}, 1, "0")) {
		t.Error("a certificate is not the same as its copy")
	}
}
