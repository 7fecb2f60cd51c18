package coordinates_test

import (
	"math/rand"
	"slices"
	"testing"

	"geoprover/api"
	"geoprover/coordinates"
	"geoprover/lower"
	"geoprover/poly"
)

// clone returns a copy of a frame with memory of its own.
func clone(x api.Frame) api.Frame {
	c := api.Frame{Vars: slices.Clone(x.Vars)}
	copied := func(p api.Poly) api.Poly {
		q := slices.Clone(p)
		for i := range q {
			q[i].Mono = slices.Clone(q[i].Mono)
			q[i].Coef.Num.Abs = slices.Clone(q[i].Coef.Num.Abs)
			q[i].Coef.Den = slices.Clone(q[i].Coef.Den)
		}
		return q
	}
	for _, p := range x.Coords {
		c.Coords = append(c.Coords, api.Coord{X: copied(p.X), Y: copied(p.Y)})
	}
	return c
}

// expectRight fails unless Right returns want.
func expectRight(t *testing.T, what string, f api.Figure, x api.Frame, want bool) {
	t.Helper()
	if got := coordinates.Right(f, x); got != want {
		t.Errorf("%s: Right is %v for %s", what, got, show(x))
	}
}

// P21.3: the right frame, also with slices of other capacities, and with nil in the place of empty slices or the other way round.
func TestRight(t *testing.T) {
	for _, steps := range []string{"free", "free, free, free", "free, free, divide 0 1 =-1/2, oncircle 2 1, free, apex 4 3, online 2 5", many("free", 32) + ", online 1 2, apex 0 1"} {
		f := figure(steps)
		x := frameOf(t, f)
		expectRight(t, "the frame", f, x, true)
		expectRight(t, "a copy", f, clone(x), true)
		for i := range x.Coords {
			for _, p := range []*api.Poly{&x.Coords[i].X, &x.Coords[i].Y} {
				if len(*p) == 0 {
					*p = api.Poly{}
				}
			}
		}
		expectRight(t, "empty polynomials", f, x, true)
		for i := range x.Coords {
			for _, p := range []*api.Poly{&x.Coords[i].X, &x.Coords[i].Y} {
				if len(*p) == 0 {
					*p = nil
				}
			}
		}
		expectRight(t, "polynomials that are nil", f, x, true)
	}
	expectRight(t, "no steps", api.Figure{}, api.Frame{}, true)
	expectRight(t, "no steps", api.Figure{Steps: []api.Step{}}, api.Frame{Coords: []api.Coord{}, Vars: []api.Var{}}, true)
	expectRight(t, "a point too many", api.Figure{}, api.Frame{Coords: []api.Coord{{}}}, false)
	expectRight(t, "a variable too many", api.Figure{}, api.Frame{Vars: []api.Var{{}}}, false)
	expectRight(t, "the example of the promise", figure("free, free"), api.Frame{Coords: make([]api.Coord, 2), Vars: []api.Var{{Kind: 1, Step: 1}, {}}}, false)
}

// P21.3: with an error of Of there is no right frame.
func TestRightErrors(t *testing.T) {
	for _, steps := range []string{"none", "apex 0 0", "free, apex 0", "free, divide 0 0", many("free", 34), many("free", 41), "free, free, free" + long(2, api.MaxTerms+1)} {
		f := figure(steps)
		expectRight(t, "an error", f, api.Frame{}, false)
		expectRight(t, "an error", f, api.Frame{Coords: make([]api.Coord, len(f.Steps))}, false)
		points, vars := frameOf(t, figure("free, free, free")), frameWith(1, 1, 1)
		expectRight(t, "an error", f, points, false)
		expectRight(t, "an error", f, vars, false)
	}
	f := figure("free, free")
	x := frameOf(t, f)
	f.Goals = []api.Fact{{Kind: api.FactSame, Args: []int{0, 2}}}
	expectRight(t, "a goal with an error", f, x, false)
	f.Goals[0].Args[1] = 1
	expectRight(t, "a goal", f, x, true)
}

// change is a way to change a part of a frame with at least one variable, the last of whose points has at least two terms in its first coordinate.
type change struct {
	what string
	do   func(x *api.Frame)
}

// changes returns changes that make a frame wrong.
func changes() []change {
	last := func(x *api.Frame) *api.Coord { return &x.Coords[len(x.Coords)-1] }
	term := func(x *api.Frame) *api.Term { return &last(x).X[0] }
	return []change{
		{"another kind", func(x *api.Frame) { x.Vars[0].Kind = 3 - x.Vars[0].Kind }},
		{"no kind", func(x *api.Frame) { x.Vars[0].Kind = 0 }},
		{"another step", func(x *api.Frame) { x.Vars[0].Step++ }},
		{"another number", func(x *api.Frame) { x.Vars[0].Number++ }},
		{"another last number", func(x *api.Frame) { x.Vars[len(x.Vars)-1].Number-- }},
		{"a variable too many", func(x *api.Frame) { x.Vars = append(x.Vars, x.Vars[0]) }},
		{"the last variable twice", func(x *api.Frame) { x.Vars = append(x.Vars, x.Vars[len(x.Vars)-1]) }},
		{"a variable too few", func(x *api.Frame) { x.Vars = x.Vars[:len(x.Vars)-1] }},
		{"no variables", func(x *api.Frame) { x.Vars = nil }},
		{"a point too many", func(x *api.Frame) { x.Coords = append(x.Coords, x.Coords[0]) }},
		{"the last point twice", func(x *api.Frame) { x.Coords = append(x.Coords, *last(x)) }},
		{"a point too few", func(x *api.Frame) { x.Coords = x.Coords[:len(x.Coords)-1] }},
		{"no points", func(x *api.Frame) { x.Coords = nil }},
		{"another order of the points", func(x *api.Frame) { slices.Reverse(x.Coords) }},
		{"the negative of a coordinate", func(x *api.Frame) { last(x).X = poly.Neg(last(x).X) }},
		{"another first coordinate", func(x *api.Frame) { last(x).X = poly.Add(last(x).X, poly.Const(number("1"))) }},
		{"another second coordinate", func(x *api.Frame) { last(x).Y = poly.Sub(last(x).Y, poly.Const(number("1/7"))) }},
		{"another coordinate of the first point", func(x *api.Frame) { x.Coords[0].Y = poly.Const(number("1")) }},
		{"exchanged coordinates", func(x *api.Frame) { last(x).X, last(x).Y = last(x).Y, last(x).X }},
		{"another coefficient", func(x *api.Frame) { term(x).Coef = number("22/7") }},
		{"another sign", func(x *api.Frame) { term(x).Coef.Num.Neg = !term(x).Coef.Num.Neg }},
		{"another monomial", func(x *api.Frame) { term(x).Mono = append(term(x).Mono, 1) }},
		{"another exponent", func(x *api.Frame) { term(x).Mono[len(term(x).Mono)-1]++ }},
		{"a term too few", func(x *api.Frame) { last(x).X = last(x).X[:1] }},
		{"no terms", func(x *api.Frame) { last(x).X = nil }},
		// other representations of the right polynomial, which are not valid
		{"a term with the coefficient 0", func(x *api.Frame) { last(x).X = append(last(x).X, api.Term{Coef: number("0")}) }},
		{"a term in two parts", func(x *api.Frame) {
			half := api.Term{Coef: poly.Scale(last(x).X[:1], number("1/2"))[0].Coef, Mono: term(x).Mono}
			last(x).X = append(api.Poly{half, half}, last(x).X[1:]...)
		}},
		{"terms in another order", func(x *api.Frame) { slices.Reverse(last(x).X) }},
		{"an exponent 0 at the end", func(x *api.Frame) { term(x).Mono = append(term(x).Mono, 0) }},
		{"a coefficient with a leading zero", func(x *api.Frame) { term(x).Coef.Num.Abs = append(term(x).Coef.Num.Abs, 0) }},
		{"a denominator with a leading zero", func(x *api.Frame) { term(x).Coef.Den = append(term(x).Coef.Den, 0) }},
		{"a coefficient that is not in lowest terms", func(x *api.Frame) {
			c := &term(x).Coef
			c.Num.Abs, c.Den = api.Nat{2 * c.Num.Abs[0]}, api.Nat{2 * c.Den[0]}
		}},
		{"a coefficient without a denominator", func(x *api.Frame) { term(x).Coef.Den = nil }},
		{"a negative coefficient 0", func(x *api.Frame) {
			last(x).Y = append(last(x).Y, api.Term{Coef: api.Rat{Num: api.Int{Neg: true}, Den: api.Nat{1}}})
		}},
		{"a negative exponent", func(x *api.Frame) { term(x).Mono[len(term(x).Mono)-1] = -1 }},
		{"too many exponents", func(x *api.Frame) { term(x).Mono = append(term(x).Mono, make(api.Mono, 2*api.MaxVars)...) }},
	}
}

// P21.3: frames that differ from the right one in one part.
func TestRightChanges(t *testing.T) {
	for _, steps := range []string{"free, free, free, divide 1 2 =1/3", "free, free, free, free, online 1 2, oncircle 0 1, turn 3 2 5", "free, apex 0 0, divide 1 0 =4, free, free, shift 1 4 3"} {
		f := figure(steps)
		right := frameOf(t, f)
		for _, c := range changes() {
			x := clone(right)
			c.do(&x)
			expectRight(t, c.what, f, x, false)
			expectRight(t, "unchanged", f, right, true)
		}
	}
}

// P21.3: the frames of other figures, and those of beginnings.
func TestRightOthers(t *testing.T) {
	f := figure("free, free, free, divide 1 2 =1/3, foot 0 1 2")
	for _, steps := range []string{
		"free, free, free, divide 1 2 =1/3, oncircle 0 1", "free, free, free, divide 1 2 =2/3, foot 0 1 2", "free, free, free, divide 2 1 =1/3, foot 0 1 2",
		"free, free, divide 1 0 =1/3, free, foot 0 1 2", "free, free, free, divide 1 2 =1/3, free", "free, free, free, divide 1 2 =1/3, foot 0 1 2, shift 0 0 0",
		"free, free, free, divide 1 2 =1/3", "free, free, free", "free, free", "free",
	} {
		expectRight(t, steps, f, frameOf(t, figure(steps)), false)
	}
	expectRight(t, "another kind with the same coordinates", f, frameOf(t, figure("free, free, free, divide 1 2 =1/3, meet 0 1 2 3")), true)
}

// damage changes one part of a frame at random, and reports whether that makes it another one.
func damage(r *rand.Rand, x api.Frame) (api.Frame, bool) {
	before := show(x)
	x = clone(x)
	if len(x.Vars) > 0 && r.Intn(2) == 0 {
		v := &x.Vars[r.Intn(len(x.Vars))]
		part := []*int{&v.Kind, &v.Step, &v.Number}[r.Intn(3)]
		*part += r.Intn(3) - 1
		return x, show(x) != before
	}
	c := &x.Coords[r.Intn(len(x.Coords))]
	p := []*api.Poly{&c.X, &c.Y}[r.Intn(2)]
	*p = poly.Add(*p, poly.Scale(poly.Var(r.Intn(4)), number([]string{"1", "-1", "0"}[r.Intn(3)])))
	return x, show(x) != before
}

// P21.3: random figures with random changes.
func TestRightRandom(t *testing.T) {
	r, wrong := newSource(), 0
	for range rounds {
		f := randomFigure(r, 8)
		x, other := damage(r, frameOf(t, f))
		expectRight(t, "a random change", f, x, !other)
		if other {
			wrong++
		}
	}
	if wrong < rounds/4 || wrong > 9*rounds/10 {
		t.Errorf("%d of %d frames are wrong", wrong, rounds)
	}
}

// randomTerms returns a list of terms that is rarely a valid polynomial.
func randomTerms(r *rand.Rand) api.Poly {
	exponents := []int{0, 1, 1, 2, -1, api.MaxExp + 1, 1 << 62, -1 << 63}
	var p api.Poly
	for range r.Intn(4) {
		mono := make(api.Mono, []int{0, 1, 2, 3, api.MaxVars + 1}[r.Intn(5)])
		for v := range mono {
			mono[v] = exponents[r.Intn(len(exponents))]
		}
		num := api.Int{Neg: r.Intn(2) == 0, Abs: api.Nat{uint16(r.Intn(4)), uint16(r.Intn(2))}}
		p = append(p, api.Term{Coef: api.Rat{Num: num, Den: api.Nat{uint16(r.Intn(3))}[:r.Intn(2)]}, Mono: mono})
	}
	return p
}

// randomFrame returns a frame of random parts, which is valid for no figure of several free points.
func randomFrame(r *rand.Rand) api.Frame {
	var x api.Frame
	for range r.Intn(6) {
		x.Coords = append(x.Coords, api.Coord{X: randomTerms(r), Y: randomTerms(r)})
		x.Vars = append(x.Vars, api.Var{Kind: r.Intn(4), Step: r.Intn(9) - 2, Number: r.Intn(4)})
	}
	return x
}

// Figures and frames of any parts: all functions end, and Of has the error of lower.Right.
func TestInvalidArguments(t *testing.T) {
	r := newSource()
	for range rounds {
		f := randomFigure(r, 6)
		s := &f.Steps[r.Intn(len(f.Steps))]
		s.Kind = r.Intn(17) - 1
		s.Args = append(s.Args, r.Intn(9)-2)[r.Intn(2):]
		if e := lower.Right(f); e != api.OK {
			expectError(t, f, e)
		}
		x := randomFrame(r)
		expectRight(t, "random parts", f, x, false)
		coordinates.Params(x)
		coordinates.Names(f, x)
	}
}
