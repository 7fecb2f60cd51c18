package triangular_test

import (
	"slices"
	"testing"

	"geoprover/api"
	"geoprover/poly"
	"geoprover/pseudo"
	"geoprover/triangular"
)

// expectElements fails unless got is the elements want, with equal representations, without an error.
func expectElements(t *testing.T, list []api.Poly, got []api.Element, e api.Errno, want []api.Element) {
	t.Helper()
	if e != api.OK || len(got) != len(want) {
		t.Fatalf("Make of %s returns %s, %d, want %s", textAll(list), textAll(polysOf(got)), e, textAll(polysOf(want)))
	}
	for i, x := range got {
		expectAll(t, "the polynomials of Make of "+textAll(list), []api.Poly{x.Poly}, []api.Poly{want[i].Poly})
		expectAll(t, "the cofactors of Make of "+textAll(list), x.Cofactors, want[i].Cofactors)
	}
}

// P11.1
func TestMake(t *testing.T) {
	for _, x := range []struct {
		list, polys string
		cofactors   []string
	}{
		{"", "", nil},
		{"0", "", nil},
		{"0, 0", "", nil},
		{"x", "x", []string{"1"}},
		{"-1/2*x + 1/3", "3*x - 2", []string{"-6"}},
		{"0, 2*x", "x", []string{"0, 1/2"}},
		{"x - 1, y - x", "x - 1, y - x", []string{"1, 0", "0, 1"}},
		{"y - x, x - 1", "x - 1, y - x", []string{"0, 1", "1, 0"}},
		{"y - x, y + x", "x, y - x", []string{"-1/2, 1/2", "1, 0"}},
		{"y + x, y - x", "x, y - x", []string{"1/2, -1/2", "0, 1"}},
		{"x, x", "x", []string{"1, 0"}},
		{"2*x, 0, -x", "x", []string{"1/2, 0, 0"}},
		{"x^2 - x, x^2 - 1", "x - 1", []string{"-1, 1"}},
		{"y^2 - x, y - x", "x^2 - x, y - x", []string{"1, -y - x", "0, 1"}},
		{"y^2 - 1, y + 1, x*y + x", "y + 1", []string{"0, 1, 0"}},
		{"x*y - 1, x*y^2 - y", "x*y - 1", []string{"1, 0"}},
		{"x*y - 1, x*y - 2*x", "2*x^2 - x, x*y - 1", []string{"x, -x", "1, 0"}},
		{"z, y, x", "x, y, z", []string{"0, 0, 1", "0, 1, 0", "1, 0, 0"}},
		{"x*z - 1, y*z - 1", "y - x, x*z - 1", []string{"-y, x", "1, 0"}},
	} {
		list := readAll(x.list)
		var want []api.Element
		for i, p := range readAll(x.polys) {
			want = append(want, api.Element{Poly: p, Cofactors: readAll(x.cofactors[i])})
		}
		got, e := triangular.Make(list)
		expectElements(t, list, got, e, want)
	}
}

// P11.1: a round divides by the element with the smallest degree, of several ones by the smallest one, and of equal ones by the first one.
func TestMakeDivisor(t *testing.T) {
	for _, x := range []struct{ list, polys, cofactors string }{
		{"y^2 + 1, y + x", "x^2 + 1, y + x", "1, -y + x"},
		{"y + x, y^2 + 1", "x^2 + 1, y + x", "-y + x, 1"},
		{"y^2 - y, x^5*y + 1", "x^5 + 1, x^5*y + 1", "x^10, -x^5*y + x^5 + 1"},
		{"y^2 + x, y^2 + 1", "x - 1, y^2 + 1", "1, -1"},
		{"y^2 + 2*x, 3*y^2 + x, 2*y^2 + x", "x, y^2 + 2*x", "3/5, -1/5, 0"},
		{"3*y^2 + x, y^2 + 2*x, 2*y^2 + x", "x, y^2 + 2*x", "-1/5, 3/5, 0"},
		{"y + x, y + x, y", "x, y", "1, 0, -1"},
		{"y + x, y, y + x", "x, y", "1, -1, 0"},
		{"y, y + x^2 - x, y + x^2 - 1", "x - 1, y", "0, -1, 1"},
	} {
		list := readAll(x.list)
		got, e := triangular.Make(list)
		if e != api.OK || len(got) == 0 {
			t.Fatalf("Make of %s returns %d", x.list, e)
		}
		expectAll(t, "the polynomials of Make of "+x.list, polysOf(got), readAll(x.polys))
		expectAll(t, "the first cofactors of Make of "+x.list, got[0].Cofactors, readAll(x.cofactors))
	}
}

// made does what Make does, by the definition.
func made(list []api.Poly) ([]api.Element, api.Errno) {
	var elements []api.Element
	add := func(l []api.Element, p api.Poly, cofactors []api.Poly) ([]api.Element, api.Errno) {
		p, factor := pseudo.Primitive(p)
		x := api.Element{Poly: p}
		for _, c := range cofactors {
			x.Cofactors = append(x.Cofactors, poly.Scale(c, factor))
		}
		isLarge := func(q api.Poly) bool { return len(q) > api.MaxTerms }
		switch {
		case isLarge(p) || slices.ContainsFunc(x.Cofactors, isLarge):
			return nil, api.ErrLarge
		case poly.Degree(p) == 0:
			return nil, api.ErrNone
		case len(p) == 0:
			return l, api.OK
		}
		return append(l, x), api.OK
	}
	for i, p := range list {
		cofactors := make([]api.Poly, len(list))
		cofactors[i] = read("1")
		var e api.Errno
		if elements, e = add(elements, p, cofactors); e != api.OK {
			return nil, e
		}
	}
	for v := api.MaxVars - 1; v >= 0; v-- {
		for {
			var best []api.Element
			for _, x := range elements {
				if pseudo.Main(x.Poly) != v {
					continue
				}
				best = append(best, x)
			}
			if len(best) < 2 {
				break
			}
			g := best[0]
			for _, x := range best {
				d, least := pseudo.DegreeIn(x.Poly, v), pseudo.DegreeIn(g.Poly, v)
				if d < least || d == least && poly.Cmp(x.Poly, g.Poly) < 0 {
					g = x
				}
			}
			var next []api.Element
			for _, f := range elements {
				if pseudo.Main(f.Poly) != v || &f.Cofactors[0] == &g.Cofactors[0] {
					next = append(next, f)
					continue
				}
				q, rest, n, e := pseudo.Divide(f.Poly, g.Poly, v)
				if e != api.OK {
					return nil, e
				}
				c := raised(pseudo.Initial(g.Poly), n)
				var cofactors []api.Poly
				for i := range list {
					cofactors = append(cofactors, poly.Sub(product(c, f.Cofactors[i]), product(q, g.Cofactors[i])))
				}
				if next, e = add(next, rest, cofactors); e != api.OK {
					return nil, e
				}
			}
			elements = next
		}
	}
	slices.SortFunc(elements, func(a, b api.Element) int { return pseudo.Main(a.Poly) - pseudo.Main(b.Poly) })
	return elements, api.OK
}

// P11.1: against the definition.
func TestMakeRandom(t *testing.T) {
	r := newSource()
	results := map[api.Errno]int{}
	for range 5 * rounds {
		list := randomList(r, 1+r.Intn(4))
		want, e := made(list)
		got, e2 := triangular.Make(list)
		results[e]++
		if e == api.OK {
			expectElements(t, list, got, e2, want)
		} else if e2 != e || len(got) > 0 {
			t.Fatalf("Make of %s returns %s, %d, want the error %d", textAll(list), textAll(polysOf(got)), e2, e)
		}
	}
	for _, e := range []api.Errno{api.OK, api.ErrNone} {
		if results[e] < rounds {
			t.Errorf("only %d lists lead to the error %d", results[e], e)
		}
	}
}

// expectError fails unless Make returns the error want alone.
func expectError(t *testing.T, what string, list []api.Poly, want api.Errno) {
	t.Helper()
	if got, e := triangular.Make(list); len(got) > 0 || e != want {
		t.Errorf("Make (%s) returns %s, %d, want the error %d", what, textAll(polysOf(got)), e, want)
	}
}

// P11.1: the first element with an error decides.
func TestMakeErrors(t *testing.T) {
	large := dense(0, api.MaxTerms+1)
	highY, highZ := product(power(0, api.MaxExp), read("y")), product(power(0, api.MaxExp), read("z")) // divided by y - x and z - x they have large rests
	for n, x := range []struct {
		list []api.Poly
		want api.Errno
	}{
		{readAll("5"), api.ErrNone},
		{readAll("-1/2, x"), api.ErrNone},
		{readAll("x, 0, 1"), api.ErrNone},
		{readAll("y, y + 1"), api.ErrNone},
		{readAll("x^2 - 1, x^2 - 4"), api.ErrNone},
		{readAll("y - x, y - x^2, x - 2"), api.ErrNone},
		{[]api.Poly{large}, api.ErrLarge},
		{[]api.Poly{nil, large}, api.ErrLarge},
		{[]api.Poly{large, read("1")}, api.ErrLarge},
		{[]api.Poly{read("1"), large}, api.ErrNone},
		{[]api.Poly{read("y"), read("y + 1"), large}, api.ErrLarge},
		{[]api.Poly{highY, read("y - x")}, api.ErrLarge},
		{[]api.Poly{read("y - x"), read("y - x + 1"), highY}, api.ErrNone},
		{[]api.Poly{read("y - x"), highY, read("y - x + 1")}, api.ErrLarge},
		{[]api.Poly{highY, read("y - x + 1"), read("y - x")}, api.ErrLarge},
		{[]api.Poly{read("y - x + 1"), highY, read("y - x")}, api.ErrNone},
		{[]api.Poly{highY, read("y - x"), read("z"), read("z + 1")}, api.ErrNone},
		{[]api.Poly{read("y"), read("y + 1"), highZ, read("z - x")}, api.ErrLarge},
		{[]api.Poly{highY, read("y - x"), read("3")}, api.ErrNone},
	} {
		if got, e := triangular.Make(x.list); len(got) > 0 || e != x.want {
			t.Errorf("Make of the list %d returns %s, %d, want the error %d", n, textAll(polysOf(got)), e, x.want)
		}
	}
}

// P11.1: polynomials and cofactors may have MaxTerms terms, and exponents up to MaxExp.
func TestMakeLimits(t *testing.T) {
	full := dense(0, api.MaxTerms)
	got, e := triangular.Make([]api.Poly{full, product(full, read("y"))})
	expectElements(t, []api.Poly{full}, got, e, []api.Element{
		{Poly: full, Cofactors: readAll("1, 0")},
		{Poly: product(full, read("y")), Cofactors: readAll("0, 1")},
	})
	// The square of the initial is a cofactor, also of an element whose polynomial is 0 or another constant.
	less, more := curve(88), curve(90) // their squares have 3916 and 4095 terms
	got, e = triangular.Make([]api.Poly{read("z^2 + z"), product(less, read("z"))})
	expectElements(t, readAll("z"), got, e, []api.Element{{Poly: product(less, read("z")), Cofactors: readAll("0, 1")}})
	expectError(t, "a large cofactor of 0", []api.Poly{read("z^2 + z"), product(more, read("z"))}, api.ErrLarge)
	expectError(t, "a cofactor of 1", []api.Poly{read("z^2"), sum(product(less, read("z")), read("1"))}, api.ErrNone)
	expectError(t, "a large cofactor of 1", []api.Poly{read("z^2"), sum(product(more, read("z")), read("1"))}, api.ErrLarge)
	for n, want := range map[int]api.Errno{api.MaxExp / 2: api.OK, api.MaxExp/2 + 1: api.ErrLarge} {
		g := product(power(0, n), read("y"))
		if got, e := triangular.Make([]api.Poly{read("y^2 + y"), g}); e != want || (len(got) == 1) != (want == api.OK) {
			t.Errorf("Make with the exponent %d returns %s, %d", n, textAll(polysOf(got)), e)
		}
	}
}

// P11.1: a product that is much too large is not computed.
func TestMakeMuchTooLarge(t *testing.T) {
	var c api.Poly
	for i := range 3900 {
		c = append(c, product(power(0, i*i%1000003), power(1, i))...)
	}
	expectError(t, "a square with millions of terms", []api.Poly{read("z^2 + z"), product(poly.Norm(c), read("z"))}, api.ErrLarge)
}

// P11.1: all variables are main variables.
func TestMakeVariables(t *testing.T) {
	var list, want []api.Poly
	for v := range api.MaxVars {
		last := api.MaxVars - 1 - v
		list = append(list, poly.Add(poly.Var(last), read("x")), poly.Sub(poly.Var(last), read("x")))
		want = append(want, poly.Sub(poly.Var(v), read("x")))
	}
	want[0] = read("x")
	got, e := triangular.Make(list)
	expectAll(t, "the polynomials of Make", polysOf(got), want)
	if e != api.OK {
		t.Errorf("Make returns %d", e)
	}
}
