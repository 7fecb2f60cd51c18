package problem_test

import (
	"reflect"
	"strconv"
	"strings"
	"testing"

	"geoprover/api"
	"geoprover/problem"
)

// sample returns the problem of a figure with steps that have conditions, and goals of several kinds.
func sample(t *testing.T) api.Problem {
	t.Helper()
	return makeOf(t, figure("free:A, free:B, free:C, divide 1 2 =-2/3:D, oncircle 0 1:E, foot 2 0 1, online 5 1 | midpoint 3 1 2, ratio 0 1 0 2 =1/2, same 5 6"))
}

// change is a change of one part of a value, with the path to that part.
type change struct {
	path  string
	apply func()
}

// changes returns changes of all parts of v: numbers, Booleans and strings become others, and lists get an element more, lose one, or exchange two.
func changes(path string, v reflect.Value) []change {
	set := func(name string, x any) change {
		return change{path + name, func() { v.Set(reflect.ValueOf(x).Convert(v.Type())) }}
	}
	switch v.Kind() {
	case reflect.Bool:
		return []change{set("", !v.Bool())}
	case reflect.Int:
		return []change{set("+1", v.Int()+1), set("-1", v.Int()-1)}
	case reflect.Uint16:
		return []change{set("+1", v.Uint()+1), set("^", v.Uint()^0x8000)}
	case reflect.String:
		return []change{set("+x", v.String()+"x")}
	case reflect.Struct:
		var l []change
		for i := range v.NumField() {
			l = append(l, changes(path+"."+v.Type().Field(i).Name, v.Field(i))...)
		}
		return l
	}
	l := []change{{path + ":longer", func() { v.Set(reflect.Append(v, reflect.Zero(v.Type().Elem()))) }}}
	for i := range v.Len() {
		l = append(l, changes(path+"["+strconv.Itoa(i)+"]", v.Index(i))...)
	}
	if n := v.Len(); n > 0 {
		l = append(l, change{path + ":shorter", func() { v.SetLen(n - 1) }})
		l = append(l, change{path + ":twice", func() { v.Set(reflect.Append(v, v.Index(n-1))) }})
	}
	if n := v.Len(); n > 1 && !reflect.DeepEqual(v.Index(0).Interface(), v.Index(n-1).Interface()) {
		l = append(l, change{path + ":exchanged", func() { reflect.Swapper(v.Interface())(0, n-1) }})
	}
	return l
}

// P25.3: problems of which one part was changed are not equal to those before, and are not right unless only the name of a point has changed. A problem with parts that are not valid is still equal to itself.
func TestChanges(t *testing.T) {
	want := sample(t)
	count := map[string]int{}
	p := sample(t)
	for k := range changes("", reflect.ValueOf(&p).Elem()) {
		p, q := sample(t), sample(t)
		c, d := changes("", reflect.ValueOf(&p).Elem())[k], changes("", reflect.ValueOf(&q).Elem())[k]
		c.apply()
		if problem.Equal(p, want) || problem.Equal(want, p) || problem.Equal(q, p) {
			t.Errorf("a problem is equal to that with the change %s", c.path)
		}
		d.apply()
		if !problem.Equal(p, q) {
			t.Errorf("problems with the change %s differ", c.path)
		}
		if got, want := problem.Right(p), strings.HasSuffix(c.path, ".Point+x"); got != want {
			t.Errorf("Right is %v for the change %s", got, c.path)
		}
		count[c.path[:3]]++
	}
	for _, part := range []string{".Fi", ".Fr", ".Hy", ".Co", ".Go"} {
		if count[part] < 25 {
			t.Errorf("only %d changes of %s", count[part], part)
		}
	}
}

// toggle replaces all nil slices in v by empty ones, and the empty ones by nil slices.
func toggle(v reflect.Value) {
	switch v.Kind() {
	case reflect.Struct:
		for i := range v.NumField() {
			toggle(v.Field(i))
		}
	case reflect.Slice:
		for i := range v.Len() {
			toggle(v.Index(i))
		}
		if v.Len() == 0 && v.IsNil() {
			v.Set(reflect.MakeSlice(v.Type(), 0, 3))
		} else if v.Len() == 0 {
			v.Set(reflect.Zero(v.Type()))
		}
	}
}

// P25.3: nil and empty slices are equal, in all parts.
func TestNilAndEmpty(t *testing.T) {
	for _, f := range []api.Figure{{}, figure("free"), figure("free, free, apex 0 1"), figure("free, free, divide 0 1 =0 | same 0 0, ratio 0 0 0 0 =0"), sample(t).Figure} {
		p, q := makeOf(t, f), makeOf(t, f)
		for range 2 {
			toggle(reflect.ValueOf(&q).Elem())
			if !problem.Equal(p, q) || !problem.Equal(q, p) || !problem.Right(q) {
				t.Errorf("the problem of %v with other empty slices", f)
			}
			if again := makeOf(t, q.Figure); !problem.Equal(again, p) {
				t.Errorf("Make of %v with other empty slices", f)
			}
		}
	}
}

// P25.3: what Make returns is right, and problems of different figures are not equal.
func TestRight(t *testing.T) {
	if !problem.Right(api.Problem{}) || !problem.Equal(api.Problem{}, makeOf(t, api.Figure{})) {
		t.Error("the problem of nothing is not right")
	}
	r := newSource()
	last := api.Problem{}
	for range rounds / 3 {
		p := makeOf(t, randomFigure(r, 5))
		if !problem.Right(p) || !problem.Equal(p, p) || !problem.Equal(p, makeOf(t, p.Figure)) {
			t.Fatalf("the problem of %v is not right", p.Figure)
		}
		if problem.Equal(p, last) != reflect.DeepEqual(p.Figure, last.Figure) {
			t.Fatalf("the problems of %v and %v are equal", p.Figure, last.Figure)
		}
		mixed := p
		mixed.Figure = last.Figure
		if problem.Right(mixed) != problem.Equal(mixed, last) {
			t.Fatalf("Right of the polynomials of %v for %v", p.Figure, last.Figure)
		}
		last = p
	}
}

// P25.3: problems whose polynomials have the right values, but are not valid, are not right. They are equal to themselves.
func TestInvalidPolynomials(t *testing.T) {
	half, zero := api.Rat{Num: api.Int{Abs: api.Nat{2}}, Den: api.Nat{4}}, api.Rat{Den: api.Nat{1}}
	for name, p := range map[string]api.Poly{
		"1/2 v0 v2":                       {{Coef: number("1/2"), Mono: api.Mono{1, 0, 1}}},
		"2/4 v0 v2":                       {{Coef: half, Mono: api.Mono{1, 0, 1}}},
		"an exponent 0 at the end":        {{Coef: number("1/2"), Mono: api.Mono{1, 0, 1, 0}}},
		"a coefficient 0":                 {{Coef: number("1/2"), Mono: api.Mono{1, 0, 1}}, {Coef: zero, Mono: api.Mono{1}}},
		"two terms of one monomial":       {{Coef: number("1/4"), Mono: api.Mono{1, 0, 1}}, {Coef: number("1/4"), Mono: api.Mono{1, 0, 1}}},
		"a limb 0 at the end":             {{Coef: api.Rat{Num: api.Int{Abs: api.Nat{1, 0}}, Den: api.Nat{2}}, Mono: api.Mono{1, 0, 1}}},
		"a limb 0 at the denominator":     {{Coef: api.Rat{Num: api.Int{Abs: api.Nat{1}}, Den: api.Nat{2, 0}}, Mono: api.Mono{1, 0, 1}}},
		"no denominator":                  {{Coef: api.Rat{Num: api.Int{Abs: api.Nat{1}}}, Mono: api.Mono{1, 0, 1}}},
		"a denominator 0":                 {{Coef: api.Rat{Num: api.Int{Abs: api.Nat{1}}, Den: api.Nat{0}}, Mono: api.Mono{1, 0, 1}}},
		"a negative coefficient":          {{Coef: number("-1/2"), Mono: api.Mono{1, 0, 1}}},
		"an exponent that is too great":   {{Coef: number("1/2"), Mono: api.Mono{1, 0, api.MaxExp + 1}}},
		"a negative exponent":             {{Coef: number("1/2"), Mono: api.Mono{1, -1, 1}}},
		"a variable that does not exist":  {{Coef: number("1/2"), Mono: make(api.Mono, api.MaxVars+1)}},
		"the terms in the opposite order": {{Coef: number("-1"), Mono: api.Mono{1}}, {Coef: number("1/2"), Mono: api.Mono{1, 0, 1}}},
	} {
		q := makeOf(t, figureOf(t, "points A, B, C; M := midpoint(B, C); prove collinear(A, B, M);"))
		q.Goals[0][0] = p
		if got := problem.Right(q); got != (name == "1/2 v0 v2") {
			t.Errorf("Right is %v for %s", got, name)
		}
		other := q
		other.Goals = [][]api.Poly{{append(api.Poly{}, p...)}}
		if !problem.Equal(q, other) {
			t.Errorf("a problem with %s is not equal to itself", name)
		}
	}
	p := makeOf(t, figure("free, free | same 0 0"))
	for _, zero := range []api.Poly{{{Coef: zero}}, {{}}, {{Coef: api.Rat{Num: api.Int{Neg: true}, Den: api.Nat{1}}}}} {
		p.Goals[0][1] = zero
		if problem.Right(p) {
			t.Errorf("Right accepts %v instead of 0", zero)
		}
	}
}

// P25.3: problems of figures for which Make has an error are not right, whatever their polynomials are.
func TestRightErrors(t *testing.T) {
	for e, l := range invalid() {
		for _, s := range l {
			p := api.Problem{Figure: figure(s)}
			if problem.Right(p) || !problem.Equal(p, p) {
				t.Errorf("the problem of %s with the error %d is right", s, e)
			}
			p = sample(t)
			if p.Figure = figure(s); problem.Right(p) {
				t.Errorf("a problem with the figure %s with the error %d is right", s, e)
			}
		}
	}
	for _, s := range []string{many("free", 34), "free, " + many("apex 0 0", 33)} {
		if problem.Right(api.Problem{Figure: figure(s)}) {
			t.Errorf("the problem of %s is right", s)
		}
	}
	b, p := longPoint(153, 41) // a condition with a term too many
	q := makeOf(t, b.figure(""))
	if !problem.Right(q) {
		t.Error("the problem of a long point is not right")
	}
	q.Figure.Steps = append(q.Figure.Steps, figure("foot 1 0 "+strconv.Itoa(p)).Steps...)
	if problem.Right(q) || problem.Right(api.Problem{Figure: q.Figure}) {
		t.Error("a problem with a long condition is right")
	}
}
