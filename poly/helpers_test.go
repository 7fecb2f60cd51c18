package poly_test

import (
	"math/big"
	"math/rand"
	"slices"
	"strconv"
	"strings"
	"testing"

	"geoprover/api"
	"geoprover/natural"
	"geoprover/poly"
)

// rounds is the number of pseudo-random cases of a test.
const rounds = 400

// newSource returns a generator with a fixed seed, so that each run tests the same polynomials.
func newSource() *rand.Rand { return rand.New(rand.NewSource(6)) }

// sum is a polynomial for comparison: the coefficients by the exponents of the first four variables.
type sum map[[4]int]*big.Rat

// add adds a term.
func (s sum) add(key [4]int, coef *big.Rat) {
	if s[key] == nil {
		s[key] = new(big.Rat)
	}
	s[key].Add(s[key], coef)
}

// plus returns s + factor u.
func (s sum) plus(u sum, factor int64) sum {
	total := sum{}
	for key, coef := range s {
		total.add(key, coef)
	}
	for key, coef := range u {
		total.add(key, new(big.Rat).Mul(coef, big.NewRat(factor, 1)))
	}
	return total
}

// times returns the product of s and u.
func (s sum) times(u sum) sum {
	total := sum{}
	for k, a := range s {
		for l, b := range u {
			total.add([4]int{k[0] + l[0], k[1] + l[1], k[2] + l[2], k[3] + l[3]}, new(big.Rat).Mul(a, b))
		}
	}
	return total
}

// poly returns the valid polynomial with the value of s, made by the definition of the document.
func (s sum) poly() api.Poly {
	var keys [][4]int
	for key, coef := range s {
		if coef.Sign() != 0 {
			keys = append(keys, key)
		}
	}
	slices.SortFunc(keys, func(k, l [4]int) int { // the greatest variable decides first, and greater monomials stand first
		slices.Reverse(k[:])
		slices.Reverse(l[:])
		return slices.Compare(l[:], k[:])
	})
	var p api.Poly
	for _, key := range keys {
		p = append(p, api.Term{Coef: fromBig(s[key]), Mono: mono(key[:]...)})
	}
	return p
}

// toSum returns the value of p, which has no variables but the first four.
func toSum(p api.Poly) sum {
	s := sum{}
	for _, t := range p {
		var key [4]int
		copy(key[:], t.Mono)
		s.add(key, toBig(t.Coef))
	}
	return s
}

// mono returns the valid monomial with these exponents and perhaps zeros at the end.
func mono(exponents ...int) api.Mono {
	m := slices.Clone(exponents)
	for len(m) > 0 && m[len(m)-1] == 0 {
		m = m[:len(m)-1]
	}
	return m
}

// toBig returns the value of a.
func toBig(a api.Rat) *big.Rat {
	num, _ := new(big.Int).SetString(natural.Text(a.Num.Abs), 10)
	den, _ := new(big.Int).SetString(natural.Text(a.Den), 10)
	if a.Num.Neg {
		num.Neg(num)
	}
	return new(big.Rat).SetFrac(num, den)
}

// fromBig returns the valid Rat with the value x.
func fromBig(x *big.Rat) api.Rat {
	num, e := natural.Read(new(big.Int).Abs(x.Num()).String())
	den, f := natural.Read(x.Denom().String())
	if e != api.OK || f != api.OK {
		panic(x)
	}
	return api.Rat{Num: api.Int{Neg: x.Sign() < 0, Abs: num}, Den: den}
}

// number returns the valid Rat with the text s.
func number(s string) api.Rat {
	x, ok := new(big.Rat).SetString(s)
	if !ok {
		panic(s)
	}
	return fromBig(x)
}

// numbers returns the numbers with the texts in s, which stand between spaces.
func numbers(s string) []api.Rat {
	var l []api.Rat
	for _, word := range strings.Fields(s) {
		l = append(l, number(word))
	}
	return l
}

// raw returns a Rat with just these limbs.
func raw(num, den uint16) api.Rat {
	return api.Rat{Num: api.Int{Abs: api.Nat{num}}, Den: api.Nat{den}}
}

// read returns the valid polynomial with the text s in the variables x, y, z and w, such as "-1/2*x^2*y + 3 - z".
func read(s string) api.Poly {
	value := sum{}
	for _, text := range strings.Split(strings.ReplaceAll(s, " - ", " + -"), " + ") {
		coef, key := big.NewRat(1, 1), [4]int{}
		if rest, minus := strings.CutPrefix(text, "-"); minus {
			coef, text = big.NewRat(-1, 1), rest
		}
		for _, factor := range strings.Split(text, "*") {
			name, exponent, isPower := strings.Cut(factor, "^")
			v := strings.Index("xyzw", name)
			n, _ := strconv.Atoi(exponent)
			switch {
			case v < 0:
				coef.Mul(coef, toBig(number(factor)))
			case isPower:
				key[v] += n
			default:
				key[v]++
			}
		}
		value.add(key, coef)
	}
	return value.poly()
}

// dense returns the sum of the powers of x with the exponents from 0 to n - 1.
func dense(n int) api.Poly {
	var p api.Poly
	for i := range n {
		p = append(p, api.Term{Coef: number("1"), Mono: mono(n - 1 - i)})
	}
	return p
}

// power returns the variable v to the power n, which is not 0.
func power(v, n int) api.Poly {
	m := make(api.Mono, v+1)
	m[v] = n
	return api.Poly{{Coef: number("1"), Mono: m}}
}

// randomPoly returns a valid polynomial with at most terms terms in the first four variables, whose exponents are at most exp.
func randomPoly(r *rand.Rand, terms, exp int) api.Poly {
	s := sum{}
	for range r.Intn(terms + 1) {
		var key [4]int
		for v := range key {
			key[v] = r.Intn(exp+1) * r.Intn(2)
		}
		s.add(key, randomCoef(r))
	}
	return s.poly()
}

// randomCoef returns a number that is often small and often an integer.
func randomCoef(r *rand.Rand) *big.Rat {
	switch r.Intn(4) {
	case 0:
		return big.NewRat(r.Int63()-r.Int63(), 1+r.Int63())
	case 1:
		return big.NewRat(int64(r.Intn(13)-6), int64(1+r.Intn(4)))
	}
	return big.NewRat(int64(r.Intn(5)-2), 1)
}

// same reports whether two representations are equal.
func same(p, q api.Poly) bool { return slices.EqualFunc(p, q, sameTerm) }

// sameTerm reports whether two representations are equal.
func sameTerm(s, t api.Term) bool {
	return sameRat(s.Coef, t.Coef) && slices.Equal(s.Mono, t.Mono)
}

// sameRat reports whether two representations are equal.
func sameRat(a, b api.Rat) bool {
	return a.Num.Neg == b.Num.Neg && slices.Equal(a.Num.Abs, b.Num.Abs) && slices.Equal(a.Den, b.Den)
}

// expect fails unless got is the polynomial want, and valid.
func expect(t *testing.T, what string, got, want api.Poly) {
	t.Helper()
	if !same(got, want) || !poly.Right(got) {
		t.Errorf("%s is %v, want %v", what, got, want)
	}
}

// expectError fails unless a function returned no polynomial and the error want.
func expectError(t *testing.T, what string, got api.Poly, e, want api.Errno) {
	t.Helper()
	if len(got) > 0 || e != want {
		t.Errorf("%s has %d terms and the error %d, want the error %d", what, len(got), e, want)
	}
}
