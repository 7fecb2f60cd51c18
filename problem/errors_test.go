package problem_test

import (
	"testing"

	"geoprover/api"
	"geoprover/problem"
)

// invalid returns figures that are not valid, by their error in lower.Right.
func invalid() map[api.Errno][]string {
	return map[api.Errno][]string{
		api.ErrLarge: {many("free", 41), many("none", 41), "free | " + many("same 0 0", 9), "free | " + many("none", 9)},
		api.ErrKind:  {"none", "free, none 0", "free, apex 0 0, none:on", "free | none", "free | none 0 7"},
		api.ErrArg:   {"free 0", "free, free, foot 0 1", "free, free, divide 0 1", "free, divide 0 0 0 =1", "free, apex 0 0 =1/2", "free | same 0", "free | ratio 0 0 0 0", "free | same 0 0 =1"},
		api.ErrRange: {"apex 0 0", "free, apex 0 1", "free, free, foot 0 1 -1", "free, free, divide 0 7 =1", "free | same 0 1", "free, free | same 0 1, collinear 0 -1 1"},
		api.ErrName:  {"free:on", "free, free:1A", "free, apex 0 0:a_b"},
		api.ErrTwice: {"free:A, free:A", "free:A, free, apex 0 1:A"},
	}
}

// P25.1: the errors of lower.Right.
func TestMakeInvalid(t *testing.T) {
	for e, l := range invalid() {
		for _, s := range l {
			expectError(t, figure(s), e)
		}
	}
}

// P25.1: the errors of lower.Right come before all others, whatever part they are about.
func TestMakeInvalidAndLarge(t *testing.T) {
	for _, large := range []string{many("free", 34), "free, " + many("apex 0 0", 33)} {
		expectError(t, figure(large), api.ErrLarge)
		for s, e := range map[string]api.Errno{
			", apex 0": api.ErrArg, ", apex 0 77": api.ErrRange, ", none": api.ErrKind, ", free:on": api.ErrName, ", free:A, free:A": api.ErrTwice,
			" | none": api.ErrKind, " | same 0 0, same 0": api.ErrArg, " | same 0 77": api.ErrRange, " | ratio 0 0 0 0": api.ErrArg,
		} {
			expectError(t, figure(large+s), e)
		}
	}
}

// expectSource fails unless Source of s returns the error e with at, and no problem.
func expectSource(t *testing.T, s string, at int, e api.Errno) {
	t.Helper()
	if p, gotAt, got := problem.Source(s); got != e || gotAt != at || !isZero(p) {
		t.Errorf("Source of %.60q has the error %d with %d, want %d with %d", s, got, gotAt, e, at)
	}
}
