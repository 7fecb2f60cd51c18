package refute_test

import (
	"math"
	"slices"
	"strconv"
	"testing"

	"geoprover/api"
	"geoprover/rational"
	"geoprover/refute"
)

// expectNth fails unless the candidate k of f has these values and branches.
func expectNth(t *testing.T, f api.Figure, k int, values, branches string) {
	t.Helper()
	gotValues, gotBranches, e := refute.Nth(f, k)
	if show(gotValues) != values || showSigns(gotBranches) != branches || e != api.OK {
		t.Errorf("the candidate %d of %v has the values %s and the branches %s, %d, want %s and %s", k, f, show(gotValues), showSigns(gotBranches), e, values, branches)
	}
}

// P27.2: the examples of the promise and of the chapter.
func TestNthExamples(t *testing.T) {
	expectNth(t, figure("free, free, free"), 0, "1 -1 1/2", "")
	expectNth(t, figure("free, free, online 0 1"), 5, "-1 -1", "")
	expectNth(t, figure("free, free, apex 0 1"), 5, "1/2", "+")
}

// P27.2: figures without parameters, without branches, and without both.
func TestNthNothing(t *testing.T) {
	for _, k := range []int{0, 1, 2, 77, math.MaxInt} {
		expectNth(t, api.Figure{}, k, "", "")
		expectNth(t, figure("free:A"), k, "", "")
		expectNth(t, figure("free, shift 0 0 0, foot 0 0 1 | same 0 1"), k, "", "")
	}
	for k, want := range []string{"---", "+--", "-+-", "++-", "--+", "+-+", "-++", "+++"} {
		for _, period := range []int{0, 8, 64, math.MaxInt - 7} { // digits behind the branches change nothing
			expectNth(t, figure("free, cut 0 0 0 0, cross 0 1 1 0, apex 0 0"), k+period, "", want)
		}
	}
	line := figure("free, free")
	for k, want := range []string{"1", "0", "1/2", "-1", "2", "-1/2", "1/3", "-2"} { // Value of k with the lowest bit inverted
		expectNth(t, line, k, want, "")
	}
	expectNth(t, line, math.MaxInt, "-62", "")
	expectNth(t, line, math.MaxInt-1, "1/63", "")
}

// P27.2: several parameters and branches, in the order of the steps.
func TestNthSeveral(t *testing.T) {
	f := figure("free, free, cut 0 1 0 1, free, cross 0 1 1 3, online 0 1, oncircle 0 1, apex 0 1") // 5 parameters and 3 branches
	for k, want := range map[int][2]string{
		0:                 {"1 -1 1/2 -1/2 2", "---"},
		1:                 {"1 -1 1/2 -1/2 2", "+--"},
		6:                 {"1 -1 1/2 -1/2 2", "-++"},
		1 << 3:            {"0 -1 1/2 -1/2 2", "---"},     // c(0) is 1, and 1 xor 1 is 0
		1<<7 + 5:          {"1 -1 1/2 -1/2 -1/2", "+-+"},  // c(4) is 1, and 1 xor 5 is 4
		1<<3 + 1<<8:       {"-1 -1 1/2 -1/2 2", "---"},    // c(0) is 3, and 3 xor 1 is 2
		1<<3 + 1<<11:      {"0 -1 1/2 -2 2", "---"},       // c(0) is 1, and c(3) is 2: 2 xor 4 is 6
		1<<23 + 1<<15 + 2: {"4/3 -1 1/3 -1/2 2", "-+-"},   // c(0) is 16, and c(2) is 4: 16 xor 1 is 17, and 4 xor 3 is 7
		1<<62 + 1<<4 + 4:  {"1 1/2 1/2 -1/2 19/9", "--+"}, // c(1) is 1, and c(4) is 2^11: 1 xor 2 is 3, and 2048 xor 5 is 2053
	} {
		expectNth(t, f, k, want[0], want[1])
	}
}

// digit returns the digit i of k.
func digit(k, i int) byte {
	text := []byte(strconv.FormatInt(int64(k), 2))
	slices.Reverse(text)
	if i >= len(text) {
		return '0'
	}
	return text[i]
}

// candidateOf returns the values and the branches of the candidate k by the definition, with digits as texts.
func candidateOf(k, params, branches int) (values []api.Rat, signs []bool) {
	for i := range branches {
		signs = append(signs, digit(k, i) == '1')
	}
	for i := range params {
		digits := ""
		for n := range 64 {
			d := digit(k, branches+i+n*params)
			if digit(i+1, n) == '1' {
				d ^= '0' ^ '1'
			}
			digits = string(d) + digits
		}
		c, err := strconv.ParseUint(digits, 2, 63)
		if err != nil {
			panic(digits)
		}
		values = append(values, refute.Value(int(c)))
	}
	return values, signs
}

// expectDefined fails unless Nth returns the candidates of the definition for f.
func expectDefined(t *testing.T, f api.Figure, k int) {
	t.Helper()
	params, branches := choicesOf(t, f)
	values, signs := candidateOf(k, params, branches)
	expectNth(t, f, k, show(values), showSigns(signs))
}

// P27.2: against the definition, for small and for great k, and for figures with as many parameters or branches as there may be.
func TestNthRandom(t *testing.T) {
	for _, s := range []string{
		"free, free", "free, free, free", "free, free, apex 0 1", "free, online 0 0, cut 0 0 0 0", "free, free, cut 0 1 0 1, free, cross 0 1 1 3, online 0 1, oncircle 0 1, apex 0 1",
		many("free", 33) + ", online 0 1", "free, " + many("apex 0 0", 32), "free, free, " + many("apex 0 0", 31), "free, " + many("online 0 0", 10) + ", " + many("cut 0 0 0 0", 20),
	} {
		f := figure(s)
		for k := range rounds {
			expectDefined(t, f, k)
		}
		for _, k := range greatNumbers() {
			expectDefined(t, f, k)
		}
	}
	r := newSource()
	for range rounds {
		f := randomFigure(r, 9)
		for range 9 {
			expectDefined(t, f, r.Intn(1000))
			expectDefined(t, f, r.Int())
		}
	}
}

// P27.2: the errors of instance.Choices, also for negative k, and then ErrRange.
func TestNthErrors(t *testing.T) {
	expectError := func(f api.Figure, k int, want api.Errno) {
		t.Helper()
		values, branches, e := refute.Nth(f, k)
		if len(values)+len(branches) > 0 || e != want {
			t.Errorf("the candidate %d of %v has the values %s and the branches %s, %d, want the error %d", k, f, show(values), showSigns(branches), e, want)
		}
	}
	negative := []int{-1, -2, -1000, math.MinInt + 1, math.MinInt}
	for want, l := range wrong() {
		for _, s := range l {
			for _, k := range append(negative, 0, 1, math.MaxInt) {
				expectError(figure(s), k, want)
			}
		}
	}
	for _, s := range []string{"", "free", "free, free, free", "free, free, apex 0 1", "free, apex 0 0"} {
		for _, k := range negative {
			expectError(figure(s), k, api.ErrRange)
		}
	}
}

// P27.6: the candidates of a figure with parameters are different: k can be computed from them.
func TestNthDifferent(t *testing.T) {
	for _, s := range []string{"free, free", "free, free, free", "free, free, cut 0 1 0 1, online 0 1, apex 0 1", many("free", 33) + ", online 0 1"} {
		f := figure(s)
		params, branches := choicesOf(t, f)
		for _, k := range append(greatNumbers(), 0, 1, 2, 3, 4, 5, 6, 7, 8, 9, 10) {
			values, signs, _ := refute.Nth(f, k)
			back := uint64(0)
			for i, b := range signs {
				if b {
					back |= 1 << i
				}
			}
			for i, a := range values {
				c := position(t, rational.Text(a)) ^ (i + 1)
				for n := 0; c>>n > 0; n++ {
					back |= uint64(c>>n&1) << (branches + i + n*params)
				}
			}
			if back != uint64(k) {
				t.Fatalf("the candidate %d of %s has the values %s and the branches %s, which are those of %d", k, s, show(values), showSigns(signs), back)
			}
		}
	}
}

// Example 5: without parameters and branches all candidates are the same; without parameters those with the same digits for the branches.
func TestNthSame(t *testing.T) {
	f := figure("free, cut 0 0 0 0, apex 0 0")
	for k := range 100 {
		_, branches, _ := refute.Nth(f, k)
		_, first, _ := refute.Nth(f, k%4)
		if !slices.Equal(branches, first) {
			t.Errorf("the candidate %d has the branches %v", k, branches)
		}
	}
}
