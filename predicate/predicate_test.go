package predicate_test

import (
	"math"
	"slices"
	"testing"

	"geoprover/api"
	"geoprover/predicate"
)

// P14.1
func TestArity(t *testing.T) {
	for kind := -3; kind < 80; kind++ {
		if got := predicate.Arity(kind); got != arities()[kind] {
			t.Errorf("Arity(%d) is %d", kind, got)
		}
	}
	for _, kind := range []int{math.MinInt, math.MaxInt, 256 + api.FactSame, 1<<32 + api.FactSame} {
		if got := predicate.Arity(kind); got != 0 {
			t.Errorf("Arity(%d) is %d", kind, got)
		}
	}
}

// expectError fails unless all functions return the error want for f and points with this length, and zero values, or no error if want is OK.
func expectError(t *testing.T, f api.Fact, points int, want api.Errno) {
	t.Helper()
	if e := predicate.Right(f, points); e != want {
		t.Errorf("Right(%v, %d) is %d, want %d", f, points, e, want)
	}
	if points < 0 {
		return
	}
	l := slices.Repeat(all("1 2"), points)
	values, e := predicate.Values(f, l)
	holds, e2 := predicate.Holds(f, l)
	text, e3 := predicate.Text(f, make([]string, points))
	if e != want || e2 != want || e3 != want {
		t.Errorf("%v for %d points: Values returns %d, Holds %d, Text %d, want %d", f, points, e, e2, e3, want)
	}
	if want != api.OK && (len(values) > 0 || holds || text != "") {
		t.Errorf("%v for %d points: Values returns %v, Holds %v, Text %q", f, points, values, holds, text)
	}
}

// zeroFact returns the fact of this kind about the first point alone.
func zeroFact(kind int) api.Fact {
	f := api.Fact{Kind: kind, Args: make([]int, arities()[kind])}
	if kind == api.FactRatio {
		f.Ratio = number("-3/7")
	}
	return f
}

// P14.1, P14.2, P14.3: facts that are right, with points that are equal or in any order.
func TestRight(t *testing.T) {
	r := newSource()
	for kind := 1; kind <= kinds; kind++ {
		expectError(t, zeroFact(kind), 1, api.OK)
		for range rounds / 10 {
			points := 1 + r.Intn(9)
			expectError(t, randomFact(r, kind, points), points, api.OK)
		}
	}
	expectError(t, fact(api.FactSame, 0, 2), 3, api.OK)
	expectError(t, fact(api.FactSame, 0, 2), 2, api.ErrRange)
}

// wrongRatios returns numbers that are not valid.
func wrongRatios() []api.Rat {
	one := api.Nat{1}
	return []api.Rat{
		{},
		{Num: api.Int{Abs: one}},
		{Num: api.Int{Neg: true}, Den: one},
		{Num: api.Int{Abs: api.Nat{2}}, Den: api.Nat{4}},
		{Num: api.Int{Abs: one}, Den: api.Nat{3, 0}},
		{Num: api.Int{Abs: api.Nat{1, 0}}, Den: one},
	}
}

// P14.1, P14.2, P14.3: the kind is examined first.
func TestKinds(t *testing.T) {
	for _, kind := range []int{0, -1, kinds + 1, 60, math.MinInt, math.MaxInt} {
		for _, args := range [][]int{nil, {0, 1}, {0, 1, 2}, {-1, 5, 7}, {0, 0, 0, 0}} {
			for _, r := range append(wrongRatios(), number("2")) {
				expectError(t, api.Fact{Kind: kind, Args: args, Ratio: r}, 3, api.ErrKind)
				expectError(t, api.Fact{Kind: kind, Args: args, Ratio: r}, 0, api.ErrKind)
			}
		}
	}
	expectError(t, api.Fact{}, 0, api.ErrKind)
}

// P14.1, P14.2, P14.3: the number of arguments is examined before the arguments and the Ratio.
func TestNumbersOfArguments(t *testing.T) {
	for kind := 1; kind <= kinds; kind++ {
		for n := range 20 {
			if n == arities()[kind] {
				continue
			}
			f := zeroFact(kind)
			f.Args = make([]int, n)
			expectError(t, f, 1, api.ErrArg)
			for i := range f.Args {
				f.Args[i] = i - 3
			}
			expectError(t, f, 1, api.ErrArg)
			expectError(t, f, 0, api.ErrArg)
		}
	}
}

// P14.1, P14.2, P14.3: the arguments are examined before the Ratio.
func TestRanges(t *testing.T) {
	for kind := 1; kind <= kinds; kind++ {
		for i := range arities()[kind] {
			for _, arg := range []int{-1, 3, 4, math.MinInt, math.MaxInt} {
				f := zeroFact(kind)
				f.Args[i] = arg
				expectError(t, f, 3, api.ErrRange)
				f.Ratio = wrongRatios()[1]
				expectError(t, f, 3, api.ErrRange)
			}
			f := zeroFact(kind)
			f.Args[i] = 2
			expectError(t, f, 3, api.OK)
			expectError(t, f, 2, api.ErrRange)
		}
		for _, points := range []int{0, -1, math.MinInt} {
			expectError(t, zeroFact(kind), points, api.ErrRange)
		}
	}
}

// P14.1, P14.2, P14.3: a FactRatio has a valid Ratio, other facts have none.
func TestRatios(t *testing.T) {
	for _, s := range []string{"0", "1", "-1", "1/4", "-123456789123456789/5"} {
		expectError(t, ratio(s, 0, 1, 0, 1), 2, api.OK)
	}
	for _, r := range wrongRatios() {
		expectError(t, api.Fact{Kind: api.FactRatio, Args: []int{0, 1, 0, 1}, Ratio: r}, 2, api.ErrArg)
	}
	empty := api.Rat{Num: api.Int{Abs: api.Nat{}}, Den: api.Nat{}}
	zeros := []api.Rat{number("0"), number("1"), number("-1/2"), {Num: api.Int{Neg: true}}, {Den: api.Nat{0}}, {Num: api.Int{Abs: api.Nat{0}}}}
	for kind := 1; kind <= kinds; kind++ {
		if kind == api.FactRatio {
			continue
		}
		f := zeroFact(kind)
		f.Ratio = empty
		expectError(t, f, 1, api.OK)
		for _, r := range append(zeros, wrongRatios()[1:]...) {
			f.Ratio = r
			expectError(t, f, 1, api.ErrArg)
		}
	}
}

// P14.3
func TestText(t *testing.T) {
	names := []string{"A", "B", "C", "D", "E", "F", "G", "H"}
	for want, f := range map[string]api.Fact{
		"collinear(A, B, C)":              fact(api.FactCollinear, 0, 1, 2),
		"parallel(A, B, C, D)":            fact(api.FactParallel, 0, 1, 2, 3),
		"perpendicular(D, B, C, A)":       fact(api.FactPerpendicular, 3, 1, 2, 0),
		"congruent(A, B, A, C)":           fact(api.FactCongruent, 0, 1, 0, 2),
		"midpoint(B, A, C)":               fact(api.FactMidpoint, 1, 0, 2),
		"concyclic(E, F, G, H)":           fact(api.FactConcyclic, 4, 5, 6, 7),
		"angle(A, B, C, D, E, F, G, H)":   fact(api.FactAngle, 0, 1, 2, 3, 4, 5, 6, 7),
		"same(C, C)":                      fact(api.FactSame, 2, 2),
		"ratio(A, B, A, C, 1/4)":          ratio("1/4", 0, 1, 0, 2),
		"ratio(A, B, A, C, -12345678901)": ratio("-12345678901", 0, 1, 0, 2),
		"ratio(A, B, A, C, 0)":            ratio("0", 0, 1, 0, 2),
	} {
		if got, e := predicate.Text(f, names); got != want || e != api.OK {
			t.Errorf("Text of %v is %q, %d, want %q", f, got, e, want)
		}
	}
}

// P14.3: names are any strings.
func TestTextNames(t *testing.T) {
	got, e := predicate.Text(fact(api.FactCollinear, 1, 0, 2), []string{"", "A, B", "\xff\n\u00e9"})
	if got != "collinear(A, B, , \xff\n\u00e9)" || e != api.OK {
		t.Errorf("Text returns %q, %d", got, e)
	}
}
