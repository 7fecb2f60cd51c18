package triangular_test

import (
	"slices"
	"testing"

	"geoprover/api"
	"geoprover/poly"
	"geoprover/pseudo"
	"geoprover/rational"
	"geoprover/triangular"
)

// expectReduction fails unless got is the reduction want, with equal representations, without an error.
func expectReduction(t *testing.T, what string, got api.Reduction, e api.Errno, want api.Reduction) {
	t.Helper()
	expectAll(t, "the quotients of "+what, got.Quotients, want.Quotients)
	expectAll(t, "the rest of "+what, []api.Poly{got.Rest}, []api.Poly{want.Rest})
	if !slices.Equal(got.Powers, want.Powers) || e != api.OK {
		t.Fatalf("the powers of %s are %v, %d, want %v", what, got.Powers, e, want.Powers)
	}
}

// P11.2
func TestRight(t *testing.T) {
	for _, x := range []struct {
		chain string
		want  bool
	}{
		{"", true},
		{"x", true},
		{"z^2*x - 1", true},
		{"x, y, z", true},
		{"x^2 - 2, y^2 - x, w*x*y - 1", true},
		{"0", false},
		{"1", false},
		{"-2/3, x", false},
		{"x, 1", false},
		{"x, 0, y", false},
		{"y, x", false},
		{"x, x", false},
		{"y - x, y + x", false},
		{"x, z, y", false},
		{"x, y, x*y", false},
	} {
		if got := triangular.Right(readAll(x.chain)); got != x.want {
			t.Errorf("Right of %s is %t", x.chain, got)
		}
	}
	var all []api.Poly
	for v := range api.MaxVars {
		all = append(all, poly.Var(v))
	}
	if !triangular.Right(all) {
		t.Error("Right of all variables is false")
	}
}

// wrongPolys returns lists of terms that are no valid polynomials.
func wrongPolys() []api.Poly {
	one := rational.Of(1)
	return []api.Poly{
		{{Coef: rational.Of(0), Mono: api.Mono{0, 1}}},
		{{Mono: api.Mono{0, 1}}},
		{{Coef: one, Mono: api.Mono{0, 1, 0}}},
		{{Coef: one, Mono: api.Mono{-1, 1}}},
		{{Coef: one, Mono: api.Mono{0, api.MaxExp + 1}}},
		{{Coef: one, Mono: append(make(api.Mono, api.MaxVars), 1)}},
		{{Coef: one, Mono: api.Mono{1}}, {Coef: one, Mono: api.Mono{0, 1}}},
		{{Coef: one, Mono: api.Mono{0, 1}}, {Coef: one, Mono: api.Mono{0, 1}}},
	}
}

// P11.2: the polynomials of a chain are valid.
func TestRightInvalid(t *testing.T) {
	for _, p := range wrongPolys() {
		if triangular.Right([]api.Poly{p}) || triangular.Right([]api.Poly{read("x"), p, read("z")}) {
			t.Errorf("Right of %v is true", p)
		}
	}
}

// P11.2
func TestInitials(t *testing.T) {
	for _, x := range []struct{ list, want string }{
		{"", ""},
		{"x", "1"},
		{"2*x - 1, x*y^2 + y, y^2*x^2*z - 3*x*z + w*z*x - w", "2, x, z*x - 1"},
		{"y, x, x", "1, 1, 1"},
		{"0", "0"},
		{"-2/3, 0, 1", "-2/3, 0, 1"},
	} {
		expectAll(t, "Initials of "+x.list, triangular.Initials(readAll(x.list)), readAll(x.want))
	}
	large := dense(0, api.MaxTerms+1)
	expectAll(t, "Initials of a large polynomial", triangular.Initials([]api.Poly{product(large, power(1, api.MaxExp))}), []api.Poly{large})
}

// P11.3
func TestReduce(t *testing.T) {
	for _, x := range []struct {
		p, chain, quotients, rest string
		powers                    []int
	}{
		{"y^2", "x*y - 1", "x*y + 1", "1", []int{2}},
		{"y^2", "", "", "y^2", nil},
		{"0", "", "", "0", nil},
		{"0", "x, y", "0, 0", "0", []int{0, 0}},
		{"5", "x, y", "0, 0", "5", []int{0, 0}},
		{"z", "x, y", "0, 0", "z", []int{0, 0}},
		{"x", "x", "1", "0", []int{1}},
		{"x", "2*x - 1", "1", "1", []int{1}},
		{"x*y", "x, y", "0, x", "0", []int{0, 1}},
		{"x*y + x + y + 1", "x, y", "1, x + 1", "1", []int{1, 1}},
		{"y^2 - 2", "x^2 - 2, y - x", "1, y + x", "0", []int{1, 2}},
		{"y", "2*x, 3*y - x", "1, 2", "0", []int{1, 1}},
		{"y", "2*x, 3*y - 1", "0, 1", "1", []int{0, 1}},
		{"z", "x - 2, x*y - 1, y*z - 1", "0, 0, 1", "1", []int{0, 0, 1}},
		{"z^2", "5*x - 2, x*y - x^2, z - y", "125*x^3 + 50*x^2 + 20*x + 8, 625*x*y + 625*x^2, 625*x^2*z + 625*x^2*y", "16", []int{4, 2, 2}},
	} {
		want := api.Reduction{Powers: x.powers, Quotients: readAll(x.quotients), Rest: read(x.rest)}
		got, e := triangular.Reduce(read(x.p), readAll(x.chain))
		expectReduction(t, "Reduce of "+x.p+" by "+x.chain, got, e, want)
	}
}

// reduced does what Reduce does, by the definition.
func reduced(p api.Poly, chain []api.Poly) (api.Reduction, api.Errno) {
	n := len(chain)
	r := api.Reduction{Powers: make([]int, n), Quotients: make([]api.Poly, n), Rest: p}
	for i := n - 1; i >= 0; i-- {
		var e api.Errno
		r.Quotients[i], r.Rest, r.Powers[i], e = pseudo.Divide(r.Rest, chain[i], pseudo.Main(chain[i]))
		if e != api.OK {
			return api.Reduction{}, e
		}
	}
	for i := range n {
		for j := range i {
			r.Quotients[i] = product(r.Quotients[i], raised(pseudo.Initial(chain[j]), r.Powers[j]))
		}
	}
	return r, api.OK
}

// P11.3: against the definition.
func TestReduceRandom(t *testing.T) {
	r := newSource()
	long := 0
	for range 2 * rounds {
		vars := 1 + r.Intn(4)
		p, chain := randomPoly(r, vars, 5, 3), randomChain(r, vars)
		want, e := reduced(p, chain)
		if e != api.OK {
			t.Fatalf("the reduction of %s by %s has the error %d", text(p), textAll(chain), e)
		}
		got, e := triangular.Reduce(p, chain)
		expectReduction(t, "Reduce of "+text(p)+" by "+textAll(chain), got, e, want)
		divisions := slices.DeleteFunc(want.Powers, func(n int) bool { return n == 0 })
		if len(divisions) > 1 {
			long++
		}
	}
	if long < rounds/4 {
		t.Errorf("only %d polynomials are divided by several elements", long)
	}
}

// expectNone fails unless Reduce returns the error want alone.
func expectNone(t *testing.T, what string, p api.Poly, chain []api.Poly, want api.Errno) {
	t.Helper()
	r, e := triangular.Reduce(p, chain)
	if len(r.Powers) > 0 || len(r.Quotients) > 0 || len(r.Rest) > 0 || e != want {
		t.Errorf("Reduce (%s) returns the powers %v, quotients %s, the rest %s and %d, want the error %d", what, r.Powers, textAll(r.Quotients), text(r.Rest), e, want)
	}
}

// P11.3: the errors in their order.
func TestReduceErrors(t *testing.T) {
	large := dense(0, api.MaxTerms+1)
	for _, p := range wrongPolys() {
		expectNone(t, "p", p, nil, api.ErrArg)
		expectNone(t, "p before the chain", p, readAll("y, x"), api.ErrArg)
		expectNone(t, "an element", read("x"), []api.Poly{read("x"), p}, api.ErrOrder)
		expectNone(t, "an element before large", large, []api.Poly{p}, api.ErrOrder)
	}
	for _, chain := range []string{"1", "0", "x, x", "y, x", "x, y, 0"} {
		expectNone(t, chain, read("x*y"), readAll(chain), api.ErrOrder)
		expectNone(t, chain+" before large", large, readAll(chain), api.ErrOrder)
	}
	expectNone(t, "p is large", large, readAll("y"), api.ErrLarge)
	expectNone(t, "p is large, small result", large, readAll("x"), api.ErrLarge)
	expectNone(t, "the rest is large", product(power(0, api.MaxExp), read("y")), readAll("y - x"), api.ErrLarge)
	expectNone(t, "a later rest is large", product(power(0, api.MaxExp), read("z")), readAll("y - x, z - y"), api.ErrLarge)
	expectNone(t, "the first error decides", product(power(0, api.MaxExp), read("z")), readAll("y, z - x*y"), api.ErrLarge)
}

// P11.3: what is not large, and what is large on the way.
func TestReduceLimits(t *testing.T) {
	large := dense(0, api.MaxTerms+1)
	got, e := triangular.Reduce(large, nil)
	expectReduction(t, "Reduce of a large polynomial without division", got, e, api.Reduction{Rest: large})
	chain := []api.Poly{large, sum(product(large, read("y")), read("x"))}
	got, e = triangular.Reduce(read("x"), chain)
	expectReduction(t, "Reduce by large polynomials", got, e, api.Reduction{Powers: []int{0, 0}, Quotients: make([]api.Poly, 2), Rest: read("x")})

	// The quotient of z is the dense factor, and is multiplied by the initial of y.
	for n, want := range map[int]api.Errno{api.MaxTerms / 2: api.OK, api.MaxTerms/2 + 1: api.ErrLarge} {
		chain := []api.Poly{sum(product(power(0, n), read("y")), read("y + 1")), read("z - y")}
		if r, e := triangular.Reduce(product(dense(0, n), read("z")), chain); e != want || (len(r.Quotients) == 2) != (want == api.OK) {
			t.Errorf("Reduce with %d terms returns %d", n, e)
		}
	}
	// Multiplied by x - 1, too, the quotient has only two terms.
	for n, want := range map[int]api.Errno{api.MaxTerms: api.OK, api.MaxTerms + 1: api.ErrLarge} {
		chain := []api.Poly{read("x*y - y + 1"), sum(product(dense(0, n), read("z")), read("y")), read("w - z")}
		if r, e := triangular.Reduce(read("w"), chain); e != want || (len(r.Quotients) == 3) != (want == api.OK) {
			t.Errorf("Reduce with %d terms between returns %d", n, e)
		}
	}
	for n, want := range map[int]api.Errno{api.MaxExp - 1: api.OK, api.MaxExp: api.ErrLarge} {
		chain := []api.Poly{read("x*y - 1"), read("z - y")}
		if r, e := triangular.Reduce(product(power(0, n), read("z")), chain); e != want || (len(r.Quotients) == 2) != (want == api.OK) {
			t.Errorf("Reduce with the exponent %d returns %d", n, e)
		}
	}
}

// P11.3: quotients are examined when they are multiplied by a power of an initial, but not between its factors.
func TestReducePowers(t *testing.T) {
	s := dense(1, 1100)
	q := product(read("x - 1"), read("x - 1"), s) // q (x + 1) has 4400 terms, q (x + 1)^2 has 3300
	got, e := triangular.Reduce(sum(product(q, read("w")), read("z^2 + z")), readAll("x*z + z, w"))
	expectReduction(t, "Reduce with a power", got, e, api.Reduction{
		Powers:    []int{2, 1},
		Quotients: []api.Poly{read("x*z + x + z + 1"), product(read("x^4 - 2*x^2 + 1"), s)},
	})
}
