package natural_test

import (
	"math"
	"testing"

	"geoprover/api"
	"geoprover/natural"
)

// P1.1
func TestNorm(t *testing.T) {
	for _, x := range []struct{ a, want api.Nat }{
		{nil, nil},
		{api.Nat{}, nil},
		{api.Nat{0}, nil},
		{api.Nat{0, 0, 0}, nil},
		{api.Nat{5}, api.Nat{5}},
		{api.Nat{5, 0, 0}, api.Nat{5}},
		{api.Nat{0, 0, 1, 0}, api.Nat{0, 0, 1}},
		{api.Nat{65535, 65535}, api.Nat{65535, 65535}},
	} {
		if got := natural.Norm(x.a); !same(got, x.want) {
			t.Errorf("Norm(%v) = %v, want %v", x.a, got, x.want)
		}
	}
}

// P1.1
func TestOf(t *testing.T) {
	for _, x := range []struct {
		n    uint64
		want api.Nat
	}{
		{0, nil},
		{1, api.Nat{1}},
		{65535, api.Nat{65535}},
		{65536, api.Nat{0, 1}},
		{65537, api.Nat{1, 1}},
		{1 << 32, api.Nat{0, 0, 1}},
		{1 << 48, api.Nat{0, 0, 0, 1}},
		{0x0004_0003_0002_0001, api.Nat{1, 2, 3, 4}},
		{math.MaxUint64, api.Nat{65535, 65535, 65535, 65535}},
	} {
		if got := natural.Of(x.n); !same(got, x.want) {
			t.Errorf("Of(%d) = %v, want %v", x.n, got, x.want)
		}
		if n, ok := natural.Uint(x.want); n != x.n || !ok {
			t.Errorf("Uint(%v) = %d, %v", x.want, n, ok)
		}
	}
}

// P1.1
func TestUint(t *testing.T) {
	for _, x := range []struct {
		a    api.Nat
		want uint64
		ok   bool
	}{
		{api.Nat{0, 0, 0, 0, 0, 0}, 0, true},
		{api.Nat{7, 0, 0, 0, 0, 0}, 7, true},
		{api.Nat{65535, 65535, 65535, 65535, 0}, math.MaxUint64, true},
		{api.Nat{0, 0, 0, 0, 1}, 0, false},
		{api.Nat{9, 9, 9, 9, 1}, 0, false},
		{api.Nat{9, 0, 0, 0, 0, 1, 0}, 0, false},
	} {
		if n, ok := natural.Uint(x.a); n != x.want || ok != x.ok {
			t.Errorf("Uint(%v) = %d, %v", x.a, n, ok)
		}
	}
}

// P1.2
func TestBits(t *testing.T) {
	for _, x := range []struct {
		a    api.Nat
		want int
	}{
		{nil, 0},
		{api.Nat{0, 0}, 0},
		{api.Nat{1}, 1},
		{api.Nat{2}, 2},
		{api.Nat{3, 0}, 2},
		{api.Nat{32768}, 16},
		{api.Nat{65535, 0}, 16},
		{api.Nat{0, 1}, 17},
		{api.Nat{0, 0, 0, 0, 1}, 65},
	} {
		if got := natural.Bits(x.a); got != x.want {
			t.Errorf("Bits(%v) = %d, want %d", x.a, got, x.want)
		}
	}
	r := newSource()
	for range rounds {
		a := randomNat(r, 12)
		if got, want := natural.Bits(a), toBig(a).BitLen(); got != want {
			t.Fatalf("Bits(%v) = %d, want %d", a, got, want)
		}
	}
}

// P1.2
func TestCmp(t *testing.T) {
	for _, x := range []struct {
		a, b api.Nat
		want int
	}{
		{nil, nil, 0},
		{nil, api.Nat{0, 0}, 0},
		{nil, api.Nat{1}, -1},
		{api.Nat{1, 0}, api.Nat{1}, 0},
		{api.Nat{65535, 0, 0}, api.Nat{0, 1}, -1},
		{api.Nat{0, 1}, api.Nat{65535}, 1},
		{api.Nat{1, 2, 3}, api.Nat{2, 1, 3}, 1},
		{api.Nat{1, 2, 3}, api.Nat{2, 2, 3}, -1},
		{api.Nat{1, 2, 3}, api.Nat{1, 2, 4}, -1},
	} {
		if got := natural.Cmp(x.a, x.b); got != x.want {
			t.Errorf("Cmp(%v, %v) = %d, want %d", x.a, x.b, got, x.want)
		}
		if got := natural.Cmp(x.b, x.a); got != -x.want {
			t.Errorf("Cmp(%v, %v) = %d, want %d", x.b, x.a, got, -x.want)
		}
	}
	r := newSource()
	for range rounds {
		a, b := randomNat(r, 4), randomNat(r, 4)
		if got, want := natural.Cmp(a, b), toBig(a).Cmp(toBig(b)); got != want {
			t.Fatalf("Cmp(%v, %v) = %d, want %d", a, b, got, want)
		}
	}
}
