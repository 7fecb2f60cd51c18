package rational_test

import (
	"testing"

	"geoprover/api"
	"geoprover/integer"
	"geoprover/rational"
)

// P3.6: the laws of a field.
func TestField(t *testing.T) {
	r := newSource()
	zero, one := rational.Of(0), rational.Of(1)
	for range rounds {
		a, b, c := randomRat(r, 4), randomRat(r, 4), randomRat(r, 4)
		value := fromBig(toBig(a))
		if !same(rational.Add(a, b), rational.Add(b, a)) || !same(rational.Mul(a, b), rational.Mul(b, a)) {
			t.Fatalf("%v and %v do not commute", a, b)
		}
		if !same(rational.Add(rational.Add(a, b), c), rational.Add(a, rational.Add(b, c))) {
			t.Fatalf("Add of %v, %v, %v is not associative", a, b, c)
		}
		if !same(rational.Mul(rational.Mul(a, b), c), rational.Mul(a, rational.Mul(b, c))) {
			t.Fatalf("Mul of %v, %v, %v is not associative", a, b, c)
		}
		if !same(rational.Mul(a, rational.Add(b, c)), rational.Add(rational.Mul(a, b), rational.Mul(a, c))) {
			t.Fatalf("Mul of %v is not distributive over Add of %v, %v", a, b, c)
		}
		if !same(rational.Add(a, zero), value) || !same(rational.Mul(a, one), value) || !same(rational.Sub(a, a), zero) || !same(rational.Add(a, rational.Neg(a)), zero) {
			t.Fatalf("0 or 1 is not neutral for %v, or %v minus itself is not 0", a, a)
		}
		if !same(rational.Sub(rational.Add(a, b), b), value) {
			t.Fatalf("Sub does not undo Add of %v, %v", a, b)
		}
		if rational.Sign(b) == 0 {
			continue
		}
		if back, e := rational.Div(rational.Mul(a, b), b); !same(back, value) || e != api.OK {
			t.Fatalf("Div does not undo Mul of %v, %v", a, b)
		}
	}
}

// P3.6: the order is compatible with sums and products.
func TestOrderedField(t *testing.T) {
	r := newSource()
	for range rounds {
		a, b, c := randomRat(r, 2), randomRat(r, 2), randomRat(r, 2)
		order := rational.Cmp(a, b)
		if order != -rational.Cmp(b, a) || order != rational.Sign(rational.Sub(a, b)) {
			t.Fatalf("Cmp(%v, %v) = %d", a, b, order)
		}
		if rational.Cmp(rational.Add(a, c), rational.Add(b, c)) != order {
			t.Fatalf("Add of %v does not keep the order of %v, %v", c, a, b)
		}
		if rational.Cmp(rational.Mul(a, c), rational.Mul(b, c)) != order*rational.Sign(c) {
			t.Fatalf("Mul by %v does not keep the order of %v, %v", c, a, b)
		}
	}
}

// P3.6: a number is not less than Floor, and less than Floor plus 1; Sqrt of a square is the absolute value.
func TestFloorSqrt(t *testing.T) {
	r := newSource()
	for range rounds {
		a := randomRat(r, 4)
		floor, _ := rational.Make(rational.Floor(a), integer.Of(1))
		if rational.Cmp(a, floor) < 0 || rational.Cmp(a, rational.Add(floor, rational.Of(1))) >= 0 {
			t.Fatalf("Floor(%v) = %v", a, floor)
		}
		abs := fromBig(toBig(a))
		abs.Num.Neg = false
		if root, ok := rational.Sqrt(rational.Mul(a, a)); !same(root, abs) || !ok {
			t.Fatalf("Sqrt of the square of %v is %v, %v", a, root, ok)
		}
	}
}

// P3.6: Read of Text is the number.
func TestReadText(t *testing.T) {
	r := newSource()
	for range rounds {
		a := randomRat(r, 50)
		if got, e := rational.Read(rational.Text(a)); !same(got, fromBig(toBig(a))) || e != api.OK {
			t.Fatalf("Read of Text of %v is %v, %d", a, got, e)
		}
	}
}
