package refute_test

import (
	"math"
	"math/big"
	"slices"
	"strconv"
	"strings"
	"testing"

	"geoprover/api"
	"geoprover/rational"
	"geoprover/refute"
)

// expectValue fails unless Value of k is the valid number with the text want.
func expectValue(t *testing.T, k int, want string) {
	t.Helper()
	if got := refute.Value(k); !rational.Right(got) || rational.Text(got) != want {
		t.Errorf("Value of %d is %v, want %s", k, got, want)
	}
}

// P27.1: the examples of the promise, of the definition and of the chapter.
func TestValueExamples(t *testing.T) {
	for k, want := range strings.Fields("0 1 -1 1/2 -1/2 2 -2") {
		expectValue(t, k, want)
	}
	for j, want := range strings.Fields("1 1/2 2 1/3 3/2 2/3 3 1/4") {
		expectValue(t, 2*j+1, want)
		expectValue(t, 2*j+2, "-"+want)
	}
	expectValue(t, 9, "3/2")
}

// P27.1: negative k.
func TestValueNegative(t *testing.T) {
	for _, k := range []int{-1, -2, -3, -9, -1 << 40, math.MinInt + 1, math.MinInt} {
		expectValue(t, k, "0")
	}
}

// greatNumbers returns numbers whose digits reach as far as those of an int.
func greatNumbers() []int {
	l := []int{math.MaxInt, math.MaxInt - 1, math.MaxInt - 2, 1 << 62, 1<<62 - 1, 1<<62 + 1, 1<<32 - 1, 1 << 32, 1<<31 - 1, 1 << 31}
	r := newSource()
	for range rounds {
		l = append(l, r.Int(), r.Int()>>r.Intn(60))
	}
	return l
}

// P27.1: great k, where the digits are all 1, or all 0 behind the highest one, or change each time.
func TestValueGreat(t *testing.T) {
	expectValue(t, math.MaxInt, "1/63")  // j = 2^62
	expectValue(t, math.MaxInt-1, "-62") // j = 2^62 - 1
	expectValue(t, math.MaxInt-2, "62")
	const alternating = 0x2AAAAAAAAAAAAAAA                                  // 62 digits: 1, 0, 1, 0 and so on
	expectValue(t, 2*alternating-1, fibonacci(62)+"/"+fibonacci(63))        // the last digit makes b the greater one
	expectValue(t, 2*(alternating>>1), "-"+fibonacci(62)+"/"+fibonacci(61)) // one digit less, the last of which is 1
}

// fibonacci returns the n-th of the numbers 1, 1, 2, 3, 5 and so on.
func fibonacci(n int) string {
	a, b := 1, 1
	for range n - 1 {
		a, b = b, a+b
	}
	return strconv.Itoa(a)
}

// valueOf returns Value of k by the definition, with the digits as a text.
func valueOf(k int) string {
	if k <= 0 {
		return "0"
	}
	j := new(big.Int).Add(big.NewInt(int64(k)), big.NewInt(1))
	j.Rsh(j, 1)
	a, b := big.NewInt(1), big.NewInt(1)
	for _, digit := range j.Text(2)[1:] {
		if digit == '0' {
			b.Add(a, b)
		} else {
			a.Add(a, b)
		}
	}
	q := new(big.Rat).SetFrac(a, b)
	if k%2 == 0 {
		q.Neg(q)
	}
	return q.RatString()
}

// P27.1: against the definition.
func TestValueRandom(t *testing.T) {
	for k := range 10 * rounds {
		expectValue(t, k, valueOf(k))
	}
	for _, k := range greatNumbers() {
		expectValue(t, k, valueOf(k))
	}
}

// P27.1: each q follows from the one before it, as 1 / (2 floor(q) + 1 - q).
func TestValueOrder(t *testing.T) {
	one := rational.Of(1)
	q := one
	for j := 1; j <= 10*rounds; j++ {
		expectValue(t, 2*j-1, rational.Text(q))
		floor := api.Rat{Num: rational.Floor(q), Den: one.Den}
		below := rational.Sub(rational.Add(rational.Add(floor, floor), one), q)
		next, e := rational.Div(one, below)
		if e != api.OK {
			t.Fatal(e)
		}
		q = next
	}
}

// position returns the k whose Value is the number with the text s.
func position(t *testing.T, s string) int {
	t.Helper()
	q, ok := new(big.Rat).SetString(s)
	if !ok || q.Sign() == 0 {
		return 0
	}
	negative := q.Sign() < 0
	a, b := new(big.Int).Abs(q.Num()), new(big.Int).Set(q.Denom())
	digits := []byte{}
	for a.Cmp(b) != 0 {
		if a.Cmp(b) > 0 {
			a.Sub(a, b)
			digits = append(digits, '1')
		} else {
			b.Sub(b, a)
			digits = append(digits, '0')
		}
	}
	slices.Reverse(digits)
	j, err := strconv.ParseUint("1"+string(digits), 2, 64)
	if err != nil {
		t.Fatal(err)
	}
	if negative {
		return int(2 * j)
	}
	return int(2*j - 1)
}

// P27.6: different k have different values: k can be computed from the value.
func TestValueDifferent(t *testing.T) {
	seen := map[string]bool{}
	for k := range 50 * rounds {
		s := rational.Text(refute.Value(k))
		if seen[s] || position(t, s) != k {
			t.Fatalf("Value of %d is %s, that of %d", k, s, position(t, s))
		}
		seen[s] = true
	}
	for _, k := range greatNumbers() {
		if s := rational.Text(refute.Value(k)); position(t, s) != k {
			t.Fatalf("Value of %d is %s, that of %d", k, s, position(t, s))
		}
	}
}

// P27.6, the definition of q(j): every rational number is a value.
func TestValueAll(t *testing.T) {
	for a := -20; a <= 20; a++ {
		for b := 1; b <= 20; b++ {
			s := rational.Text(rational.Frac(a, b))
			expectValue(t, position(t, s), s)
		}
	}
}
