package purity_test

import (
	"testing"

	"geoprover/api"
	"geoprover/integer"
	"geoprover/interval"
	"geoprover/natural"
	"geoprover/rational"
)

// nats returns natural numbers, some of them with leading zeros.
func nats() []api.Nat {
	return []api.Nat{
		nil, {}, {0, 0}, {1}, {1, 0}, {5}, {0, 3, 0}, {1, 2, 3, 4}, {1, 2, 3, 4, 5},
		{65535, 65535, 65535, 65535, 65535, 65535, 65535, 65535}, {1, 2, 3, 4, 5, 6, 7, 8, 9, 0},
	}
}

// texts returns texts of numbers, some of them malformed.
func texts() []any {
	return []any{"", "0", "12", "-12", "-123456789123456789123456789", "6", "-3/6", "7/2", "1/0", "1/", "x"}
}

func TestNatural(t *testing.T) {
	s := samples{}
	s.add(texts()...)
	s.add(uint64(0), uint64(1<<63), 0, 1, -1, 16, -16, 1<<21)
	for _, n := range nats() {
		s.add(n)
	}
	checkAll(t, s, natural.Norm, natural.Of, natural.Uint, natural.Bits, natural.Cmp, natural.Add, natural.Sub, natural.Mul, natural.DivMod, natural.Gcd, natural.Sqrt, natural.Shift, natural.Text, natural.Read)
}

func TestInteger(t *testing.T) {
	s := samples{}
	s.add(texts()...)
	s.add(0, -7, 1<<40)
	for _, n := range nats() {
		s.add(api.Int{Abs: n}, api.Int{Neg: true, Abs: n})
	}
	checkAll(t, s, integer.Right, integer.Norm, integer.Of, integer.Sign, integer.Cmp, integer.Neg, integer.Add, integer.Sub, integer.Mul, integer.DivMod, integer.Gcd, integer.Text, integer.Read)
}

func TestRational(t *testing.T) {
	s := samples{}
	s.add(texts()...)
	s.add(0, -7, 1<<40)
	for i, n := range nats() {
		num := api.Int{Neg: i%2 == 0, Abs: n}
		s.add(num, api.Rat{Num: num, Den: api.Nat{1}}, api.Rat{Num: num, Den: api.Nat{0, 6}}, api.Rat{Num: api.Int{Abs: api.Nat{4}}, Den: n})
	}
	s.add(api.Rat{Num: api.Int{Abs: api.Nat{9}}, Den: api.Nat{4}})
	checkAll(t, s, rational.Right, rational.Make, rational.Of, rational.Frac, rational.Sign, rational.Cmp, rational.Equal, rational.Neg, rational.Add, rational.Sub, rational.Mul, rational.Div, rational.Floor, rational.Sqrt, rational.Text, rational.Read)
}

// number returns the number with the text s.
func number(t *testing.T, s string) api.Rat {
	t.Helper()
	a, e := rational.Read(s)
	if e != api.OK {
		t.Fatalf("%q is not a number", s)
	}
	return a
}

func TestInterval(t *testing.T) {
	s := samples{}
	s.add(-1, 0, 3, 200)
	s.add(api.Rat{})
	for _, x := range [][2]string{{"0", "0"}, {"1", "1"}, {"1", "2"}, {"-1", "2"}, {"-2/3", "-1/3"}, {"0", "5/8"}, {"-7", "0"}, {"1/3", "123456789123456789123456789/7"}} {
		lo, hi := number(t, x[0]), number(t, x[1])
		s.add(lo, hi, api.Interval{Lo: lo, Hi: hi})
	}
	checkAll(t, s, interval.Right, interval.Make, interval.Point, interval.Has, interval.Meet, interval.Hull, interval.Sign, interval.Add, interval.Sub, interval.Mul, interval.Div, interval.Square, interval.Sqrt, interval.Round)
}
