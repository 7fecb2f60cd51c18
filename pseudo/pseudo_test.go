package pseudo_test

import (
	"math"
	"math/big"
	"testing"

	"geoprover/api"
	"geoprover/natural"
	"geoprover/poly"
	"geoprover/pseudo"
	"geoprover/rational"
)

// P8.1
func TestMain(t *testing.T) {
	for _, x := range []struct {
		p       api.Poly
		main    int
		initial api.Poly
	}{
		{nil, -1, nil},
		{api.Poly{}, -1, nil},
		{read("-3/2"), -1, read("-3/2")},
		{read("x"), 0, read("1")},
		{read("-2*x + 5"), 0, read("-2")},
		{read("x^9 - y"), 1, read("-1")},
		{read("x*y^2 - 3*y^2 + x^5*y - 1"), 1, read("x - 3")},
		{read("z*x + z*y^7 - 1/2*z"), 2, read("x + y^7 - 1/2")},
		{read("w*x^2 - y + z"), 3, read("x^2")},
		{power(api.MaxVars-1, api.MaxExp), api.MaxVars - 1, read("1")},
		{poly.Mul(power(api.MaxVars-1, 2), read("x + y")), api.MaxVars - 1, read("x + y")},
	} {
		if got := pseudo.Main(x.p); got != x.main {
			t.Errorf("Main(%s) = %d, want %d", text(x.p), got, x.main)
		}
		expect(t, "Initial of "+text(x.p), pseudo.Initial(x.p), x.initial)
	}
}

// P8.1
func TestDegreeIn(t *testing.T) {
	p := read("x*y^2 - 3*x^7 + w^2*y")
	for v, want := range map[int]int{0: 7, 1: 2, 2: 0, 3: 2, 4: 0, api.MaxVars - 1: 0, api.MaxVars: 0, -1: 0, math.MinInt: 0, math.MaxInt: 0} {
		if got := pseudo.DegreeIn(p, v); got != want {
			t.Errorf("the degree in %d is %d, want %d", v, got, want)
		}
		if pseudo.DegreeIn(nil, v) != -1 || pseudo.DegreeIn(read("5"), v) != 0 {
			t.Errorf("the degree of a constant in %d is wrong", v)
		}
	}
	if got := pseudo.DegreeIn(power(2, api.MaxExp), 2); got != api.MaxExp {
		t.Errorf("the greatest degree is %d", got)
	}
}

// P8.2
func TestCoefs(t *testing.T) {
	for _, x := range []struct {
		p    string
		v    int
		want string
	}{
		{"0", 0, ""},
		{"0", -1, ""},
		{"5", 0, "5"},
		{"5", -1, "5"},
		{"5", math.MaxInt, "5"},
		{"x", 0, "0, 1"},
		{"x", 1, "x"},
		{"x - 7*y", api.MaxVars, "x - 7*y"},
		{"x - 7*y", math.MinInt, "x - 7*y"},
		{"x^3 - 2*x + 1/2", 0, "1/2, -2, 0, 1"},
		{"x*y^2 - y + 3*y^2 - x^5 + z*y", 1, "-x^5, z - 1, x + 3"},
		{"x*y^2 - y + 3*y^2 - x^5 + z*y", 0, "z*y - y + 3*y^2, y^2, 0, 0, 0, -1"},
		{"x*y^2 - y + 3*y^2 - x^5 + z*y", 2, "x*y^2 - y + 3*y^2 - x^5, y"},
		{"x*y^2 - y + 3*y^2 - x^5 + z*y", 3, "x*y^2 - y + 3*y^2 - x^5 + z*y"},
	} {
		got := pseudo.Coefs(read(x.p), x.v)
		expectAll(t, "the coefficients of "+x.p, got, readAll(x.want))
		if x.v >= 0 && x.v < api.MaxVars {
			expect(t, "Join", pseudo.Join(got, x.v), read(x.p))
		}
	}
}

// P8.2
func TestJoin(t *testing.T) {
	for _, x := range []struct {
		l    string
		v    int
		want string
	}{
		{"", 0, "0"},
		{"0", 3, "0"},
		{"x", 0, "x"},
		{"0, 0, 5", 2, "5*z^2"},
		{"0, 0, 0", 2, "0"},
		{"x, y, z", 0, "x + y*x + z*x^2"},
		{"x, y, z", 1, "x + y^2 + z*y^2"},
		{"x^2, -x, 3", 0, "3*x^2"},
		{"-x, 1", 0, "0"},
		{"1/2, x + 1, w", 3, "1/2 + x*w + w + w^3"},
	} {
		expect(t, "Join of "+x.l, pseudo.Join(readAll(x.l), x.v), read(x.want))
	}
	last := api.MaxVars - 1
	expect(t, "Join", pseudo.Join(readAll("0, x, 1"), last), poly.Add(power(last, 2), poly.Mul(power(last, 1), read("x"))))
}

// P8.2: the greatest exponent.
func TestCoefsOfGreatPower(t *testing.T) {
	p := sum(power(0, api.MaxExp), product(power(0, api.MaxExp-1), power(2, api.MaxExp)), read("y"))
	coefs := pseudo.Coefs(p, 0)
	if len(coefs) != api.MaxExp+1 {
		t.Fatalf("%d coefficients", len(coefs))
	}
	expect(t, "a coefficient", coefs[api.MaxExp-1], power(2, api.MaxExp))
	expect(t, "Join", pseudo.Join(coefs, 0), p)
	if v := pseudo.DegreeIn(pseudo.Join([]api.Poly{power(1, api.MaxExp), power(0, api.MaxExp-1)}, 0), 0); v != api.MaxExp {
		t.Errorf("Join has the degree %d", v)
	}
}

// P8.2 and P8.6: Join of Coefs is the polynomial, and the coefficients lack the variable.
func TestJoinOfCoefs(t *testing.T) {
	r := newSource()
	for range rounds {
		p := randomPoly(r, 20, 5)
		for v := range 5 {
			coefs := pseudo.Coefs(p, v)
			expect(t, "Join", pseudo.Join(coefs, v), p)
			if len(coefs) != pseudo.DegreeIn(p, v)+1 {
				t.Fatalf("%s has %d coefficients", text(p), len(coefs))
			}
			for _, c := range coefs {
				if pseudo.DegreeIn(c, v) > 0 || !poly.Right(c) {
					t.Fatalf("%s has the coefficient %s", text(p), text(c))
				}
			}
			if v == pseudo.Main(p) {
				expect(t, "Initial", pseudo.Initial(p), coefs[len(coefs)-1])
			}
		}
	}
}

// P8.2: the coefficients have memory of their own, also behind their ends.
func TestCoefsMemory(t *testing.T) {
	coefs := pseudo.Coefs(read("x*y + y + 3*x + 5"), 1)
	_ = append(coefs[0], api.Term{Coef: rational.Of(9)})
	expectAll(t, "the coefficients", coefs, readAll("3*x + 5, x + 1"))
}

// P8.5
func TestPrimitive(t *testing.T) {
	for _, x := range []struct{ p, want, factor string }{
		{"0", "0", "1"},
		{"1", "1", "1"},
		{"-1", "1", "-1"},
		{"-4/6", "1", "-3/2"},
		{"-1/2*x + 1/3", "3*x - 2", "-6"},
		{"4*x - 6*y", "3*y - 2*x", "-1/2"},
		{"6*x*y - 10*x + 15", "6*x*y - 10*x + 15", "1"},
		{"6/7*x*y - 10/21*x", "9*x*y - 5*x", "21/2"},
		{"x^2 - 2", "x^2 - 2", "1"},
		{"-x^2 + 2", "x^2 - 2", "-1"},
		{"1/4*z + 1/6*y + 1/9*x", "9*z + 6*y + 4*x", "36"},
		{"123456789012345678901234567890*x - 246913578024691357802469135780", "x - 2", "1/123456789012345678901234567890"},
	} {
		got, factor := pseudo.Primitive(read(x.p))
		expect(t, "Primitive of "+x.p, got, read(x.want))
		if rational.Text(factor) != x.factor || !rational.Right(factor) {
			t.Errorf("Primitive of %s has the factor %s, want %s", x.p, rational.Text(factor), x.factor)
		}
	}
}

// P8.5 and P8.6
func TestPrimitiveRandom(t *testing.T) {
	r := newSource()
	for range 5 * rounds {
		p := randomPoly(r, 5, 3)
		got, factor := pseudo.Primitive(p)
		expect(t, "Primitive", got, poly.Scale(p, factor))
		divisor := new(big.Int)
		for i, c := range got {
			if len(c.Coef.Den) != 1 || c.Coef.Den[0] != 1 || i == 0 && c.Coef.Num.Neg {
				t.Fatalf("Primitive of %s is %s", text(p), text(got))
			}
			n, _ := new(big.Int).SetString(natural.Text(c.Coef.Num.Abs), 10)
			divisor.GCD(nil, nil, divisor, n)
		}
		if len(p) > 0 && divisor.Cmp(big.NewInt(1)) != 0 {
			t.Fatalf("Primitive of %s has coefficients with the divisor %s", text(p), divisor)
		}
		again, one := pseudo.Primitive(got)
		expect(t, "Primitive of Primitive", again, got)
		if rational.Text(one) != "1" {
			t.Fatalf("Primitive of Primitive has the factor %s", rational.Text(one))
		}
		if c := randomCoef(r); rational.Sign(c) != 0 {
			multiple, _ := pseudo.Primitive(poly.Scale(p, c))
			expect(t, "Primitive of a multiple", multiple, got)
		}
	}
}
