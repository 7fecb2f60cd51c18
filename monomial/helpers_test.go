package monomial_test

import (
	"math/rand"
	"slices"
	"testing"

	"geoprover/api"
	"geoprover/monomial"
)

// rounds is the number of pseudo-random cases of a test.
const rounds = 3000

// newSource returns a generator with a fixed seed, so that each run tests the same monomials.
func newSource() *rand.Rand { return rand.New(rand.NewSource(5)) }

// randomMono returns a valid monomial with at most vars variables, most of whose exponents are small.
func randomMono(r *rand.Rand, vars int) api.Mono {
	a := make(api.Mono, r.Intn(vars+1))
	for v := range a {
		a[v] = r.Intn(4)
	}
	for len(a) > 0 && a[len(a)-1] == 0 {
		a = a[:len(a)-1]
	}
	if len(a) > 0 && r.Intn(8) == 0 {
		a[len(a)-1] = api.MaxExp / 4
	}
	return a
}

// power returns the monomial that is the variable v to the power n, which is not 0.
func power(v, n int) api.Mono {
	a := make(api.Mono, v+1)
	a[v] = n
	return a
}

// full returns a monomial with n variables, all with the exponent e.
func full(n, e int) api.Mono {
	return slices.Repeat(api.Mono{e}, n)
}

// same reports whether two representations are equal.
func same(a, b api.Mono) bool { return slices.Equal(a, b) }

// expect fails unless got is want, and valid.
func expect(t *testing.T, what string, got, want api.Mono) {
	t.Helper()
	if !same(got, want) || !monomial.Right(got) {
		t.Errorf("%s is %v, want %v", what, got, want)
	}
}
