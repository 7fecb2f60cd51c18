package natural_test

import (
	"slices"
	"testing"

	"geoprover/api"
	"geoprover/natural"
)

// R5: no function changes its arguments or returns a part of their memory, not even with room behind the limbs.
func TestMemory(t *testing.T) {
	operations := []func(a, b api.Nat) []api.Nat{
		func(a, b api.Nat) []api.Nat { return []api.Nat{natural.Norm(a)} },
		func(a, b api.Nat) []api.Nat { return []api.Nat{natural.Add(a, b)} },
		func(a, b api.Nat) []api.Nat { x, _ := natural.Sub(a, b); return []api.Nat{x} },
		func(a, b api.Nat) []api.Nat { return []api.Nat{natural.Mul(a, b)} },
		func(a, b api.Nat) []api.Nat { q, r, _ := natural.DivMod(a, b); return []api.Nat{q, r} },
		func(a, b api.Nat) []api.Nat { return []api.Nat{natural.Gcd(a, b)} },
		func(a, b api.Nat) []api.Nat { root, rest := natural.Sqrt(a); return []api.Nat{root, rest} },
		func(a, b api.Nat) []api.Nat { return []api.Nat{natural.Shift(a, 0), natural.Shift(a, -16)} },
		func(a, b api.Nat) []api.Nat {
			natural.Uint(a)
			natural.Bits(a)
			natural.Cmp(a, b)
			natural.Text(a)
			return nil
		},
	}
	numbers := []api.Nat{nil, {0, 0}, {1, 0}, {5}, {0, 3, 0}, {1, 2, 3, 4}, {1, 2, 3, 4, 5}, {65535, 65535, 65535, 65535, 65535, 65535, 65535, 65535}, {1, 2, 3, 4, 5, 6, 7, 8, 9, 0}}
	for i, operation := range operations {
		for _, first := range numbers {
			for _, second := range numbers {
				a, b := roomy(first), roomy(second)
				results := operation(a, b)
				for k, result := range results {
					before := cloneAll(results[k+1:])
					overwrite(result)
					if !slices.EqualFunc(before, results[k+1:], same) {
						t.Fatalf("the results of operation %d for %v, %v share memory", i, first, second)
					}
				}
				if !same(a[:len(a)+2], append(slices.Clone(first), 77, 78)) || !same(b[:len(b)+2], append(slices.Clone(second), 77, 78)) {
					t.Fatalf("operation %d changed %v, %v or shares their memory", i, first, second)
				}
			}
		}
	}
}

// roomy returns a copy of a with two more limbs behind its end.
func roomy(a api.Nat) api.Nat { return append(slices.Clone(a), 77, 78)[:len(a)] }

// overwrite changes all of the memory that a caller can reach through a.
func overwrite(a api.Nat) {
	a = a[:cap(a)]
	for i := range a {
		a[i] = ^a[i]
	}
}

// cloneAll returns copies of the numbers.
func cloneAll(l []api.Nat) []api.Nat {
	var c []api.Nat
	for _, a := range l {
		c = append(c, slices.Clone(a))
	}
	return c
}
