package polytext

import (
	"geoprover/api"
	"geoprover/natural"
	"geoprover/poly"
	"geoprover/rational"
)

// Read returns the polynomial that the sum s denotes, in which names[v] is the name of the variable v. It returns the error of names, and otherwise the first error that is met when s is read from left to right, with its offset.
func Read(s string, names []string) (p api.Poly, at int, e api.Errno) {
	numbers, e := numbersOf(names)
	if e != api.OK {
		return nil, 0, e
	}
	r := reader{text: []byte(s), numbers: numbers}
	terms, ok := r.sum()
	if !ok {
		return nil, r.at, r.e
	}
	return poly.Norm(terms), 0, api.OK
}

// reader reads a text from left to right. Its methods that read a part of the text return false at the first error, and leave it in e, with its offset in at.
type reader struct {
	text    []byte
	next    int // the offset of the first byte that was not read
	numbers map[string]int
	at      int
	e       api.Errno
}

// sum reads the terms of a sum up to the end of the text.
func (r *reader) sum() ([]api.Term, bool) {
	var terms []api.Term
	neg := r.skip('-')
	for {
		if len(terms) == api.MaxTerms {
			return nil, r.fail(r.next, api.ErrLarge)
		}
		t, ok := r.term()
		if !ok {
			return nil, false
		}
		if neg {
			t.Coef = rational.Neg(t.Coef)
		}
		terms = append(terms, t)
		if r.next == len(r.text) {
			return terms, true
		}
		neg, ok = r.operator()
		if !ok {
			return nil, false
		}
	}
}

// operator reads what stands between two terms, and reports whether it is a minus.
func (r *reader) operator() (minus, ok bool) {
	if !r.expect(' ') {
		return false, false
	}
	minus = r.skip('-')
	return minus, (minus || r.expect('+')) && r.expect(' ')
}

// term reads a term.
func (r *reader) term() (api.Term, bool) {
	first := r.next
	coef := rational.Of(1)
	if r.sees(isDigit) {
		var ok bool
		coef, ok = r.coefficient()
		if !ok || !r.skip('*') {
			return api.Term{Coef: coef}, ok
		}
	}
	mono, ok := r.product(first)
	return api.Term{Coef: coef, Mono: mono}, ok
}

// coefficient reads a coefficient.
func (r *reader) coefficient() (api.Rat, bool) {
	num, ok := r.numeral()
	if !ok || !r.skip('/') {
		return api.Rat{Num: api.Int{Abs: num}, Den: natural.Of(1)}, ok
	}
	first := r.next
	den, ok := r.numeral()
	if !ok {
		return api.Rat{}, false
	}
	coef, e := rational.Make(api.Int{Abs: num}, api.Int{Abs: den})
	return coef, e == api.OK || r.fail(first, e)
}

// product reads the powers of the term that begins at the offset first, and returns their exponents, with zeros at the end.
func (r *reader) product(first int) (api.Mono, bool) {
	mono := make(api.Mono, api.MaxVars)
	for {
		v, n, ok := r.power()
		if !ok {
			return nil, false
		}
		mono[v] += n
		if mono[v] > api.MaxExp {
			return nil, r.fail(first, api.ErrLarge)
		}
		if !r.skip('*') {
			return mono, true
		}
	}
}

// power reads a power, and returns the number of its variable and the exponent.
func (r *reader) power() (v, n int, ok bool) {
	v, ok = r.variable()
	if !ok || !r.skip('^') {
		return v, 1, ok
	}
	first := r.next
	numeral, ok := r.numeral()
	if !ok {
		return 0, 0, false
	}
	exponent, fits := natural.Uint(numeral)
	if !fits || exponent > api.MaxExp {
		return 0, 0, r.fail(first, api.ErrLarge)
	}
	return v, int(exponent), true
}

// variable reads a name, and returns the number of its variable.
func (r *reader) variable() (int, bool) {
	if r.sees(isDigit) || !r.sees(isNamePart) {
		return 0, r.refuse()
	}
	first := r.next
	for r.sees(isNamePart) {
		r.next++
	}
	v, ok := r.numbers[string(r.from(first))]
	if !ok || v >= api.MaxVars {
		return 0, r.fail(first, api.ErrName)
	}
	return v, true
}

// numeral reads a numeral.
func (r *reader) numeral() (api.Nat, bool) {
	if !r.sees(isDigit) {
		return nil, r.refuse()
	}
	first := r.next
	if !r.skip('0') { // nothing belongs to a numeral behind a 0 at its beginning
		for r.sees(isDigit) {
			r.next++
		}
	}
	n, e := natural.Read(string(r.from(first)))
	return n, e == api.OK || r.fail(first, e)
}

// from returns the part of the text that was read from the offset first on.
func (r *reader) from(first int) []byte {
	return r.text[first:r.next:r.next]
}

// sees reports whether there is a next byte, and it is of this kind.
func (r *reader) sees(kind func(c rune) bool) bool {
	return r.next < len(r.text) && kind(rune(r.text[r.next]))
}

// skip reads the next byte if it is b, and reports whether it is.
func (r *reader) skip(b byte) bool {
	found := r.next < len(r.text) && r.text[r.next] == b
	if found {
		r.next++
	}
	return found
}

// expect reads the byte b, which must be the next one.
func (r *reader) expect(b byte) bool {
	return r.skip(b) || r.refuse()
}

// refuse fails since no sum can go on as the text does.
func (r *reader) refuse() bool {
	if r.next == len(r.text) {
		return r.fail(r.next, api.ErrEnd)
	}
	return r.fail(r.next, api.ErrForm)
}

// fail keeps the error e with its offset, and returns false.
func (r *reader) fail(at int, e api.Errno) bool {
	r.at, r.e = at, e
	return false
}
