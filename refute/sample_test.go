package refute_test

import (
	"math"
	"testing"

	"geoprover/api"
	"geoprover/conditions"
	"geoprover/hypotheses"
	"geoprover/instance"
	"geoprover/poly"
	"geoprover/rational"
	"geoprover/refute"
)

// expectSatisfied fails unless all hypotheses of the figure of p vanish at x, its conditions hold for the points of x, and these are the points of the values and branches.
func expectSatisfied(t *testing.T, p api.Problem, x api.Instance) {
	t.Helper()
	if satisfies, e := instance.Satisfies(p, x); !satisfies || e != api.OK {
		t.Fatalf("%s does not satisfy the problem of %v", showInstance(x), p.Figure)
	}
	if again, _, e := instance.At(p.Figure, x.Values, x.Branches); e != api.OK || showInstance(again) != showInstance(x) {
		t.Fatalf("%s does not have the points of its values", showInstance(x))
	}
	values, _ := instance.Values(p, x)
	hyps, _ := hypotheses.Of(p.Figure)
	for _, h := range hyps {
		if a, e := poly.Eval(h, values); rational.Sign(a) != 0 || e != api.OK {
			t.Fatalf("a hypothesis of %v is %s at %s", p.Figure, rational.Text(a), showInstance(x))
		}
	}
	conds, _ := conditions.Of(p.Figure)
	for _, c := range conds {
		if holds, e := conditions.Holds(c, x.Points); !holds || e != api.OK {
			t.Fatalf("the condition %v of %v does not hold for %s", c, p.Figure, showInstance(x))
		}
	}
}

// expectSample fails unless Sample returns instances with these texts.
func expectSample(t *testing.T, p api.Problem, count, most int, want []api.Instance) {
	t.Helper()
	got, e := refute.Sample(p, count, most)
	if len(got) != len(want) || showAll(got) != showAll(want) || e != api.OK {
		t.Errorf("Sample of %v, %d, %d returns %d, and\n%s\nwant\n%s", p.Figure, count, most, e, showAll(got), showAll(want))
	}
}

// expectNoSample fails unless Sample returns this error alone.
func expectNoSample(t *testing.T, p api.Problem, count, most int, want api.Errno) {
	t.Helper()
	if got, e := refute.Sample(p, count, most); len(got) > 0 || e != want {
		t.Errorf("Sample of %v, %d, %d returns %d instances and %d, want the error %d", p.Figure, count, most, len(got), e, want)
	}
}

// P27.4: no instances.
func TestSampleNothing(t *testing.T) {
	for _, s := range []string{"", "free", "free, free, free", "free, free, apex 0 1", "free, foot 0 0 0"} {
		for _, most := range []int{0, 1, 100, api.MaxTries} {
			expectSample(t, makeOf(t, figure(s)), 0, most, nil)
		}
	}
}

// P27.4: one and more instances of a triangle, whose candidates all have one.
func TestSampleTriangle(t *testing.T) {
	p := sourceOf(t, "points A, B, C;")
	for count, want := range []string{
		"", "1 -1 1/2;; 0 0 1 0 -1 1/2", "1 -1 1/2;; 0 0 1 0 -1 1/2\n0 -1 1/2;; 0 0 0 0 -1 1/2", "1 -1 1/2;; 0 0 1 0 -1 1/2\n0 -1 1/2;; 0 0 0 0 -1 1/2\n1 1/2 1/2;; 0 0 1 0 1/2 1/2",
	} {
		for _, most := range []int{count, count + 1, 50, api.MaxTries} {
			if got, e := refute.Sample(p, count, most); showAll(got) != want || len(got) != count || e != api.OK {
				t.Errorf("Sample of a triangle, %d, %d returns %s, %d, want %s", count, most, showAll(got), e, want)
			}
		}
		expectNoSample(t, p, count+1, count, api.ErrNone)
	}
	if got, e := refute.Sample(sourceOf(t, "points A;"), api.MaxTries, api.MaxTries); len(got) != api.MaxTries || e != api.OK {
		t.Errorf("Sample returns %d instances, %d", len(got), e)
	}
}

// P27.4: fewer instances than count.
func TestSampleFew(t *testing.T) {
	f := figure("free, free, foot 0 0 1") // degenerate if v is 0, which is the candidate 1
	p := makeOf(t, f)
	for most := range 20 {
		have := most
		if most > 1 {
			have--
		}
		if got, e := refute.Sample(p, have, most); len(got) != have || e != api.OK {
			t.Errorf("Sample of %d instances in %d tries returns %d, %d", have, most, len(got), e)
		}
		expectNoSample(t, p, have+1, most, api.ErrNone)
		expectNoSample(t, p, api.MaxTries, most, api.ErrNone)
		expectNoSample(t, p, math.MaxInt, most, api.ErrNone)
	}
	for _, s := range []string{"points A, B; C := apex(A, B);", "points A, B; C := apex(A, B); D := midpoint(A, C);", "points A, B; C := foot(A, line(B, B));"} {
		p := sourceOf(t, s)
		for _, count := range []int{1, 2, 100, api.MaxTries, api.MaxTries + 1, math.MaxInt} {
			for _, most := range []int{0, 1, 1000} {
				expectNoSample(t, p, count, most, api.ErrNone)
			}
		}
		expectNoSample(t, p, 1, api.MaxTries, api.ErrNone)
	}
}

// P27.4: numbers that are out of range.
func TestSampleErrors(t *testing.T) {
	for _, s := range []string{"", "free, free, free", "free, free, apex 0 1"} {
		p := makeOf(t, figure(s))
		for _, count := range []int{-1, -2, math.MinInt} {
			for _, most := range []int{0, 1, api.MaxTries, -1, api.MaxTries + 1, math.MinInt} {
				expectNoSample(t, p, count, most, api.ErrRange)
			}
		}
		for _, most := range []int{-1, -2, math.MinInt, api.MaxTries + 1, math.MaxInt} {
			for _, count := range []int{0, 1, 5, api.MaxTries + 1, math.MaxInt} {
				expectNoSample(t, p, count, most, api.ErrRange)
			}
		}
	}
}

// P27.4: only instances that satisfy the problem. (With a further hypothesis it is not right.)
func TestSampleSatisfies(t *testing.T) {
	p := makeOf(t, figure("free, free, free"))
	p.Hyps = []api.Poly{poly.Var(2)}
	l, e := refute.Sample(p, 3, 1000)
	if len(l) != 3 || e != api.OK {
		t.Fatalf("Sample returns %s, %d", showAll(l), e)
	}
	for _, x := range l {
		if rational.Sign(x.Values[2]) != 0 {
			t.Errorf("Sample returns %s", showInstance(x))
		}
	}
}

// P27.4, P27.7, P2, P5: against the definition, for random figures and all counts. What is returned is the beginning of what is returned for a greater count.
func TestSampleRandom(t *testing.T) {
	r := newSource()
	kinds := map[int]int{}
	few := 0
	for range rounds {
		p := makeOf(t, randomFigure(r, 6))
		const most = 12
		var want []api.Instance
		for _, a := range attempts(t, p, most) {
			if a.exists && a.satisfies {
				want = append(want, a.instance)
			}
		}
		for count := range most + 2 {
			if count > len(want) {
				expectNoSample(t, p, count, most, api.ErrNone)
				few++
			} else {
				expectSample(t, p, count, most, want[:count])
			}
		}
		for _, x := range want {
			expectSatisfied(t, p, x)
			for _, s := range p.Figure.Steps {
				kinds[s.Kind]++
			}
		}
	}
	for kind := api.StepFree; kind < api.StepApex; kind++ {
		if kinds[kind] < rounds/3 {
			t.Errorf("only %d steps of the kind %d", kinds[kind], kind)
		}
	}
	if few < rounds {
		t.Errorf("only %d counts were too great", few)
	}
}

// P27.7: a long sample, of which not all candidates have an instance.
func TestSampleLong(t *testing.T) {
	p := sourceOf(t, "points A, B, C; D := foot(A, line(B, C)); E := cut(line(A, B), circle(C, A)); F := on(circle(E, D)); G := other(E, F, D);")
	l, e := refute.Sample(p, 500, 2000)
	if len(l) != 500 || e != api.OK {
		t.Fatalf("Sample returns %d instances, %d", len(l), e)
	}
	for _, count := range []int{0, 1, 2, 77, 499} {
		expectSample(t, p, count, 2000, l[:count])
	}
	for _, x := range l {
		expectSatisfied(t, p, x)
	}
	if last := showInstance(l[499]); last == showInstance(l[498]) {
		t.Errorf("the last instance is again %s", last)
	}
}
