package interval_test

import (
	"math"
	"math/big"
	"strconv"
	"testing"

	"geoprover/api"
	"geoprover/interval"
	"geoprover/rational"
)

// P4.4
func TestRound(t *testing.T) {
	for _, x := range []struct {
		a    string
		bits int
		want string
	}{
		{"1/3", 2, "1/4 1/2"},
		{"1/3", 0, "0 1"},
		{"-1/3", 2, "-1/2 -1/4"},
		{"-1/3 1/3", 2, "-1/2 1/2"},
		{"1/3 3/4", 2, "1/4 3/4"},
		{"1/4 1/3", 2, "1/4 1/2"},
		{"1/4 1/3", 1, "0 1/2"},
		{"-7/2 -3/2", 1, "-7/2 -3/2"},
		{"-7/2 -3/2", 0, "-4 -1"},
		{"5", 0, "5"},
		{"0", 200, "0"},
		{"1/1024", 10, "1/1024"},
		{"1/1024", 9, "0 1/512"},
	} {
		got, e := interval.Round(span(x.a), x.bits)
		expect(t, "Round of "+x.a+" with "+strconv.Itoa(x.bits)+" bits", got, span(x.want))
		if e != api.OK {
			t.Errorf("Round of %s: %d", x.a, e)
		}
	}
}

// P4.5
func TestSqrt(t *testing.T) {
	for _, x := range []struct {
		a    string
		bits int
		want string
	}{
		{"2", 0, "1 2"},
		{"2", 1, "1 3/2"},
		{"2", 2, "5/4 3/2"},
		{"4", 0, "2"},
		{"4", 7, "2"},
		{"4", 200, "2"},
		{"9/4", 1, "3/2"},
		{"9/4", 0, "1 2"},
		{"0", 5, "0"},
		{"-5 0", 5, "0"},
		{"-5 2", 1, "0 3/2"},
		{"1/3 4", 1, "1/2 2"},
		{"1/5 1/3", 0, "0 1"},
		{"1/5 1/3", 1, "0 1"},
		{"1/4 1/3", 1, "1/2 1"},
		{"1/1000000", 3, "0 1/8"},
		{"9999999/1000000", 0, "3 4"},
	} {
		got, e := interval.Sqrt(span(x.a), x.bits)
		expect(t, "Sqrt of "+x.a+" with "+strconv.Itoa(x.bits)+" bits", got, span(x.want))
		if e != api.OK {
			t.Errorf("Sqrt of %s: %d", x.a, e)
		}
	}
}

// P4.4, P4.5: the errors, and the least and the greatest number of bits.
func TestGridErrors(t *testing.T) {
	for _, bits := range []int{math.MinInt, -1, api.MaxBits + 1, math.MaxInt} {
		got, e := interval.Round(span("1/3"), bits)
		expectError(t, "Round with "+strconv.Itoa(bits)+" bits", got, e, api.ErrRange)
		got, e = interval.Sqrt(span("1/3"), bits)
		expectError(t, "Sqrt with "+strconv.Itoa(bits)+" bits", got, e, api.ErrRange)
		got, e = interval.Sqrt(span("-1"), bits)
		expectError(t, "Sqrt of -1 with "+strconv.Itoa(bits)+" bits", got, e, api.ErrRange)
	}
	for _, bits := range []int{0, api.MaxBits} {
		if _, e := interval.Round(span("1/3"), bits); e != api.OK {
			t.Errorf("Round with %d bits: %d", bits, e)
		}
		if _, e := interval.Sqrt(span("1/3"), bits); e != api.OK {
			t.Errorf("Sqrt with %d bits: %d", bits, e)
		}
		for _, s := range []string{"-1", "-3 -1/1000"} {
			got, e := interval.Sqrt(span(s), bits)
			expectError(t, "Sqrt of "+s, got, e, api.ErrRange)
		}
	}
}

// onGrid reports whether a is a multiple of 2^-bits.
func onGrid(a api.Rat, bits int) bool {
	unit := new(big.Rat).SetInt(new(big.Int).Lsh(big.NewInt(1), uint(bits)))
	return unit.Mul(unit, toBig(a)).IsInt()
}

// grid returns 2^-bits.
func grid(bits int) api.Rat {
	unit := rational.Of(1)
	for range bits {
		unit = rational.Mul(unit, rational.Frac(1, 2))
	}
	return unit
}

// P4.4, P4.6: Round contains a, no end point could be a step of the grid farther inside, and Round of Round is Round.
func TestRoundRandom(t *testing.T) {
	r := newSource()
	for range rounds {
		a, bits := randomInterval(r), r.Intn(api.MaxBits+1)
		if r.Intn(2) == 0 {
			bits = r.Intn(4)
		}
		unit := grid(bits)
		got, _ := interval.Round(a, bits)
		if !interval.Right(got) || !isPart(a, got) || !onGrid(got.Lo, bits) || !onGrid(got.Hi, bits) {
			t.Fatalf("Round of %s with %d bits is %s", show(a), bits, show(got))
		}
		if rational.Cmp(rational.Add(got.Lo, unit), a.Lo) <= 0 || rational.Cmp(rational.Sub(got.Hi, unit), a.Hi) >= 0 {
			t.Fatalf("Round of %s with %d bits is %s, which is too wide", show(a), bits, show(got))
		}
		if again, _ := interval.Round(got, bits); !same(again, got) {
			t.Fatalf("Round of Round of %s is %s, not %s", show(a), show(again), show(got))
		}
		if narrow, _ := interval.Round(part(r, a), bits); !isPart(narrow, got) {
			t.Fatalf("Round of a part of %s is not a part of %s", show(a), show(got))
		}
	}
}

// P4.5, P4.6: the square of Sqrt contains the numbers of a that are not negative, and no end point could be a step of the grid farther inside.
func TestSqrtRandom(t *testing.T) {
	r := newSource()
	zero := rational.Of(0)
	for range rounds {
		a, bits := randomInterval(r), r.Intn(api.MaxBits+1)
		if r.Intn(2) == 0 {
			bits = r.Intn(4)
		}
		got, e := interval.Sqrt(a, bits)
		if rational.Sign(a.Hi) < 0 {
			expectError(t, "Sqrt of "+show(a), got, e, api.ErrRange)
			continue
		}
		kept, _ := interval.Meet(a, api.Interval{Lo: zero, Hi: a.Hi})
		if e != api.OK || !interval.Right(got) || !onGrid(got.Lo, bits) || !onGrid(got.Hi, bits) || rational.Sign(got.Lo) < 0 {
			t.Fatalf("Sqrt of %s with %d bits is %s, %d", show(a), bits, show(got), e)
		}
		if !isPart(kept, interval.Square(got)) {
			t.Fatalf("the square of Sqrt of %s does not contain it", show(a))
		}
		up, down := rational.Add(got.Lo, grid(bits)), rational.Sub(got.Hi, grid(bits))
		if rational.Cmp(rational.Mul(up, up), kept.Lo) <= 0 || rational.Sign(down) >= 0 && rational.Cmp(rational.Mul(down, down), kept.Hi) >= 0 {
			t.Fatalf("Sqrt of %s with %d bits is %s, which is too wide", show(a), bits, show(got))
		}
		if narrow, e := interval.Sqrt(part(r, a), bits); e == api.OK && !isPart(narrow, got) {
			t.Fatalf("Sqrt of a part of %s is not a part of %s", show(a), show(got))
		}
	}
}
