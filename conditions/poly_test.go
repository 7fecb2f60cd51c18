package conditions_test

import (
	"testing"

	"geoprover/api"
	"geoprover/conditions"
	"geoprover/coordinates"
)

// P23.2: the example of the promise.
func TestPolyExample(t *testing.T) {
	f := figure("free, free, apex 0 1")
	if got := show(polyOf(t, condition(api.CondDistinct, 2, 0, 1), f, frameOf(t, f))); got != "v0^2" {
		t.Errorf("the polynomial is %s", got)
	}
}

// P23.2: each kind of conditions.
func TestPolyKinds(t *testing.T) {
	const before = "free, free, free, free, " // (0, 0), (v0, 0), (v1, v2), (v3, v4)
	for step, want := range map[string]string{
		"apex 0 1":      "v0^2",
		"apex 1 0":      "v0^2",
		"apex 2 2":      "0",
		"foot 3 0 2":    "v2^2 + v1^2",
		"mirror 3 1 2":  "v2^2 + v1^2 - 2*v0*v1 + v0^2",
		"other 2 1 3":   "v2^2 + v1^2 - 2*v0*v1 + v0^2",
		"cut 0 3 1 2":   "v4^2 + v3^2",
		"cross 0 2 1 3": "v0^2",
		"cross 2 0 0 0": "v2^2 + v1^2",
		"center 0 1 2":  "v0*v2",
		"center 1 0 2":  "-v0*v2",
		"center 1 2 0":  "v0*v2",
		"center 1 2 3":  "v1*v4 - v0*v4 - v2*v3 + v0*v2",
		"center 1 1 3":  "0",
		"meet 0 1 2 3":  "v0*v4 - v0*v2",
		"meet 0 1 3 2":  "-v0*v4 + v0*v2",
		"meet 2 3 0 1":  "-v0*v4 + v0*v2",
		"meet 0 1 0 2":  "v0*v2",
		"meet 0 2 1 3":  "v1*v4 - v2*v3 + v0*v2",
		"meet 1 1 2 3":  "0",
		"oncircle 0 1":  "v5^2 + 1",
		"oncircle 3 3":  "v5^2 + 1",
	} {
		f := figure(before + step)
		l := ofFigure(t, f)
		if got := show(polyOf(t, l[0], f, frameOf(t, f))); got != want {
			t.Errorf("the polynomial of %s of %s is %s, want %s", write(l[0]), step, got, want)
		}
	}
}

// P23.2: for CondSlope, t is the variable that the step introduces first.
func TestPolySlope(t *testing.T) {
	f := figure("free, oncircle 0 0, free, oncircle 1 2, oncircle 3 3, online 4 3, oncircle 5 1")
	x := frameOf(t, f)
	want := map[int]string{1: "v0^2 + 1", 3: "v4^2 + 1", 4: "v7^2 + 1", 6: "v11^2 + 1"}
	for step, text := range want {
		if got := show(polyOf(t, condition(api.CondSlope, step), f, x)); got != text {
			t.Errorf("the polynomial of the slope of the step %d is %s, want %s", step, got, text)
		}
	}
}

// P23.2: conditions about points whose coordinates are no variables.
func TestPolyOfPolynomials(t *testing.T) {
	f := figure("free, free, free, divide 0 2 =1/2, turn 1 0 2, online 1 2, apex 3 4, meet 0 5 3 4, center 3 1 5, other 5 4 0")
	x := frameOf(t, f)
	got := ""
	for _, c := range ofFigure(t, f) {
		p := polyOf(t, c, f, x)
		got += write(c) + ": " + show(p) + "\n"
		if !equals(p, polynomial(c, x)) {
			t.Errorf("the polynomial of %s is %s", write(c), show(p))
		}
	}
	const want = `distinct 3 4 @6: 5/4*v2^2 - 2*v0*v2 + 5/4*v1^2 - v0*v1 + v0^2
crossing 0 5 3 4 @7: v2^2*v3 - 1/2*v0*v2*v3 + v1^2*v3 - v0*v1*v3 - 1/2*v0*v2 + v0*v1
triangle 3 1 5 @8: 1/2*v0*v2*v3
distinct 5 4 @9: v2^2*v3^2 + v1^2*v3^2 - 2*v0*v1*v3^2 + v0^2*v3^2 - 2*v0*v2*v3 + v2^2 + v1^2
`
	if got != want {
		t.Errorf("the polynomials are\n%s, want\n%s", got, want)
	}
}

// P23.2: random figures against the list of DOC.md.
func TestPolyRandom(t *testing.T) {
	r, kinds := newSource(), map[int]int{}
	for range rounds {
		f := randomFigure(r, 9)
		x := frameOf(t, f)
		for _, c := range ofFigure(t, f) {
			if p := polyOf(t, c, f, x); !equals(p, polynomial(c, x)) {
				t.Fatalf("the polynomial of %s of %v is %s", write(c), f, show(p))
			}
			kinds[c.Kind]++
		}
	}
	for kind := api.CondDistinct; kind <= api.CondSlope; kind++ {
		if kinds[kind] < rounds/6 {
			t.Errorf("only %d conditions of the kind %d", kinds[kind], kind)
		}
	}
}

// P23.2: there is no limit for the terms of the polynomial.
func TestPolyLong(t *testing.T) {
	f := figure(longLine(7) + ", online 2 0, apex 9 10")
	x := frameOf(t, f)
	c := condition(api.CondDistinct, 11, 9, 10)
	if p := polyOf(t, c, f, x); len(p) <= api.MaxTerms || !equals(p, polynomial(c, x)) {
		t.Errorf("a polynomial with %d terms", len(p))
	}
}

// P23.2: what is not right is ErrArg, also for a figure without steps.
func TestPolyErrors(t *testing.T) {
	for _, c := range []api.Condition{{}, {Kind: api.CondSlope}, condition(api.CondDistinct, 0, 0, 0), condition(api.CondDistinct, -1, 0, 1), condition(9, 2, 0, 1)} {
		for _, steps := range []string{"free", "free, free, online 0 1"} {
			f := figure(steps)
			if p, e := conditions.Poly(c, f, frameOf(t, f)); len(p) > 0 || e != api.ErrArg {
				t.Errorf("Poly of %s for %s is %s, %d", write(c), steps, show(p), e)
			}
		}
		if p, e := conditions.Poly(c, api.Figure{}, api.Frame{}); len(p) > 0 || e != api.ErrArg {
			t.Errorf("Poly of %s for no steps is %s, %d", write(c), show(p), e)
		}
	}
}

// Nothing is promised for figures that are not valid and for other frames (R2), but functions return all the same.
func TestInvalidArguments(t *testing.T) {
	r := newSource()
	for range 20 * rounds {
		f := randomFigure(r, 6)
		x, _ := coordinates.Of(randomFigure(r, 6)) // mostly the frame of another figure
		s := &f.Steps[r.Intn(len(f.Steps))]
		s.Kind = r.Intn(17) - 1
		s.Args = append(s.Args, r.Intn(9)-2)[r.Intn(2):]
		for i := range f.Steps {
			c := condition(1+r.Intn(4), i, f.Steps[i].Args...)
			switch r.Intn(3) {
			case 0:
				c.Args = c.Args[:min(len(c.Args), 2)]
			case 1:
				c.Args = c.Args[min(len(c.Args), 1):]
			}
			right := conditions.Right(c, f)
			if _, e := conditions.Poly(c, f, x); (e == api.OK) != right {
				t.Fatalf("Poly of %s for %v has the error %d", write(c), f, e)
			}
		}
	}
}
