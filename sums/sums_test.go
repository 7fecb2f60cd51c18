package sums_test

import (
	"math/rand"
	"slices"
	"testing"

	"geoprover/api"
	"geoprover/poly"
	"geoprover/polytext"
	"geoprover/rational"
	"geoprover/sums"
)

// rounds is the number of pseudo-random cases of a test.
const rounds = 400

// newSource returns a generator with a fixed seed, so that each run tests the same polynomials.
func newSource() *rand.Rand { return rand.New(rand.NewSource(11)) }

// read returns the polynomial with the text s.
func read(s string) api.Poly {
	p, _, e := polytext.Read(s, []string{"x", "y", "z"})
	if e != api.OK {
		panic(s)
	}
	return p
}

// dense returns the sum of the first n powers of the variable v.
func dense(v, n int) api.Poly {
	p := make(api.Poly, n)
	for i := range n {
		mono := make(api.Mono, v+1)
		mono[v] = i
		p[n-1-i] = api.Term{Coef: rational.Of(1), Mono: mono}
	}
	return poly.Norm(p)
}

// randomPoly returns a polynomial with at most terms terms, whose exponents are at most exp.
func randomPoly(r *rand.Rand, terms, exp int) api.Poly {
	var l []api.Term
	for range r.Intn(terms + 1) {
		mono := api.Mono{r.Intn(exp + 1), r.Intn(exp + 1), r.Intn(exp + 1)}
		l = append(l, api.Term{Coef: rational.Frac(r.Intn(9)-4, 1+r.Intn(3)), Mono: mono})
	}
	return poly.Norm(l)
}

// all returns the terms that are left of s.
func all(s *sums.Sum) api.Poly {
	var terms api.Poly
	for t, ok := s.Next(); ok; t, ok = s.Next() {
		terms = append(terms, t)
	}
	return terms
}

// expect fails unless got is the polynomial want, and valid.
func expect(t *testing.T, what string, got, want api.Poly) {
	t.Helper()
	if !poly.Equal(got, want) || !poly.Right(got) {
		t.Fatalf("%s is %v, want %v", what, got, want)
	}
}

func TestNext(t *testing.T) {
	for _, x := range []struct{ p, a, b, want string }{
		{"0", "0", "0", "0"},
		{"x + 1", "0", "0", "x + 1"},
		{"x + 1", "y", "0", "x + 1"},
		{"x + 1", "0", "y", "x + 1"},
		{"0", "x + 1", "x - 1", "x^2 - 1"},
		{"1", "x + 1", "x - 1", "x^2"},
		{"1 - x^2", "x + 1", "x - 1", "0"},
		{"z", "y + x", "1/2*z + 3", "1/2*y*z + 1/2*x*z + z + 3*y + 3*x"},
	} {
		s := sums.Of(read(x.p), read(x.a), read(x.b))
		expect(t, "the sum", all(s), read(x.want))
		if rest, ok := s.Next(); ok || len(rest.Mono) > 0 || !rational.Equal(rest.Coef, api.Rat{}) {
			t.Errorf("the term %v is left", rest)
		}
	}
}

func TestNextRandom(t *testing.T) {
	r := newSource()
	for range rounds {
		p, a, b := randomPoly(r, 9, 3), randomPoly(r, 9, 2), randomPoly(r, 9, 2)
		if r.Intn(3) == 0 {
			p = poly.Sub(randomPoly(r, 2, 3), poly.Mul(a, b))
		}
		expect(t, "the sum", all(sums.Of(p, a, b)), poly.Add(p, poly.Mul(a, b)))
	}
}

func TestAdd(t *testing.T) {
	r := newSource()
	for range rounds {
		want := randomPoly(r, 4, 3)
		s := sums.Of(want, nil, nil)
		for range r.Intn(5) {
			a, b := randomPoly(r, 5, 2), randomPoly(r, 5, 2)
			s.Add(a, b)
			want = poly.Add(want, poly.Mul(a, b))
			if r.Intn(4) == 0 {
				s.Add(poly.Neg(b), a)
				want = poly.Sub(want, poly.Mul(a, b))
			}
		}
		expect(t, "the sum", all(s), want)
	}
}

func TestWithin(t *testing.T) {
	for limit, want := range map[int]bool{0: false, 3: false, 4: true, 5: true} {
		got, ok := sums.Of(read("x"), read("x + 1"), read("y + z")).Within(limit)
		if ok != (limit == 5) || !ok && len(got) > 0 {
			t.Errorf("the sum within %d is %v, %t", limit, got, ok)
		}
		got, ok = sums.Of(nil, read("x + 1"), read("y + z")).Within(limit)
		if ok != want || !ok && len(got) > 0 {
			t.Errorf("the product within %d is %v, %t", limit, got, ok)
		}
	}
	if got, ok := sums.Of(read("x"), read("x"), read("-1")).Within(0); !ok || len(got) > 0 {
		t.Errorf("0 within 0 is %v, %t", got, ok)
	}
}

func TestSmall(t *testing.T) {
	high := func(exp int) api.Poly { return api.Poly{{Coef: rational.Of(1), Mono: api.Mono{1, exp}}} }
	for what, x := range map[string]struct {
		p, a, b api.Poly
		want    bool
	}{
		"0":                     {nil, nil, nil, true},
		"terms of p":            {dense(0, api.MaxTerms), nil, nil, true},
		"many terms of p":       {dense(0, api.MaxTerms+1), nil, nil, false},
		"terms":                 {nil, dense(0, api.MaxTerms/2), read("y + z"), true},
		"many terms":            {nil, dense(0, api.MaxTerms/2+1), read("y + z"), false},
		"many terms that go":    {nil, dense(0, api.MaxTerms+1), read("x - 1"), true},
		"exponents":             {nil, high(api.MaxExp - 1), read("y"), true},
		"great exponents":       {nil, high(api.MaxExp), read("y + 1"), false},
		"great exponents of p":  {high(api.MaxExp + 1), nil, nil, false},
		"great exponents gone":  {high(api.MaxExp + 1), high(api.MaxExp), read("-y"), true},
		"constant":              {read("1"), nil, nil, true},
		"great last exponent":   {nil, high(api.MaxExp), read("z^2 + y"), false},
		"great first exponents": {nil, high(api.MaxExp), read("y*z^2 + 1"), false},
	} {
		got, ok := sums.Of(x.p, x.a, x.b).Small()
		if ok != x.want || !ok && len(got) > 0 {
			t.Errorf("the sum (%s) is %v, %t", what, got[:min(len(got), 3)], ok)
		}
		whole := poly.Add(x.p, poly.Mul(x.a, x.b))
		if sums.Large(whole) == x.want || ok && !poly.Equal(got, whole) {
			t.Errorf("the sum (%s) is wrong, or large", what)
		}
	}
}

// What is not taken is not computed: this product has 10^10 terms.
func TestNextFirst(t *testing.T) {
	s := sums.Of(nil, dense(0, 100000), dense(1, 100000))
	for i := range 100 {
		u, ok := s.Next()
		if !ok || !slices.Equal(u.Mono, api.Mono{99999 - i, 99999}) {
			t.Fatalf("the term %d is %v, %t", i, u, ok)
		}
	}
}

// Reduce takes the multiples of b away that are found term by term.
func TestReduce(t *testing.T) {
	r := newSource()
	for range rounds {
		b, q := randomPoly(r, 6, 2), randomPoly(r, 6, 2)
		if len(b) == 0 {
			continue
		}
		s := sums.Of(poly.Mul(b, q), nil, b)
		for _, u := range q {
			lead, ok := s.Next()
			expect(t, "the next term", api.Poly{lead}, poly.Mul(api.Poly{u}, b[:1]))
			if !ok {
				t.Fatal("there is no term")
			}
			s.Reduce(u)
		}
		expect(t, "the rest", all(s), nil)
	}
}

// The polynomials stay as they are, also behind their ends.
func TestMemory(t *testing.T) {
	p, a, b := read("z^2 - x"), read("x + y"), read("x - y")
	spare := append(slices.Clone(a), read("z")...)
	s := sums.Of(p, spare[:2], b)
	first, _ := s.Next()
	s.Reduce(first)
	all(s)
	for _, x := range [][2]api.Poly{{p, read("z^2 - x")}, {spare[:2], a}, {spare[2:], read("z")}, {b, read("x - y")}} {
		expect(t, "a polynomial", x[0], x[1])
	}
}
