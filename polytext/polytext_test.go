package polytext_test

import (
	"slices"
	"testing"

	"geoprover/api"
	"geoprover/poly"
	"geoprover/polytext"
)

// P7.1
func TestPrint(t *testing.T) {
	xyz := words("x y z")
	for _, x := range []struct {
		p     api.Poly
		names []string
		want  string
	}{
		{nil, nil, "0"},
		{api.Poly{}, xyz, "0"},
		{term("1"), nil, "1"},
		{term("-1"), nil, "-1"},
		{term("-3/2"), xyz, "-3/2"},
		{term("123456789012345678901234567890/11"), nil, "123456789012345678901234567890/11"},
		{term("1", 1), xyz, "x"},
		{term("-1", 1), xyz, "-x"},
		{term("2", 1), xyz, "2*x"},
		{term("1/2", 0, 2), xyz, "1/2*y^2"},
		{term("-7/3", 2, 1, 3), xyz, "-7/3*x^2*y*z^3"},
		{term("1", 1, 0, 1), xyz, "x*z"},
		{term("1", api.MaxExp), xyz, "x^1048576"},
		{sum(term("-1", 0, 2), term("1/2", 2), term("-1")), xyz, "-y^2 + 1/2*x^2 - 1"},
		{sum(term("1", 0, 2), term("-1/2", 2), term("1")), xyz, "y^2 - 1/2*x^2 + 1"},
		{sum(term("1", 5), term("1", 0, 1), term("-4", 0, 0, 1), term("-1", 1, 1)), xyz, "-4*z - x*y + y + x^5"},
		{sum(term("2", 1), term("-3", 0, 1)), words("A.x _$9"), "-3*_$9 + 2*A.x"},
		{sum(term("2", 1), term("-3", 0, 1)), words("y x"), "-3*x + 2*y"},
		{term("5", 0, 1), words("x y z w"), "5*y"},
	} {
		expectText(t, x.p, x.names, x.want)
	}
}

// P7.1: as many names as there are variables, and more.
func TestPrintManyNames(t *testing.T) {
	last := poly.Var(api.MaxVars - 1)
	expectText(t, last, manyNames(api.MaxVars), "v63")
	expectText(t, poly.Add(last, poly.Var(0)), manyNames(api.MaxVars+9), "v63 + v0")
}

// P7.1: the numbers of terms and digits are not limited.
func TestPrintLong(t *testing.T) {
	p := dense(api.MaxTerms + 1)
	want := "1"
	for n := 1; n <= api.MaxTerms; n++ {
		power, e := polytext.Print(p[len(p)-1-n:len(p)-n], words("x"))
		if e != api.OK {
			t.Fatal(e)
		}
		want = power + " + " + want
	}
	expectText(t, p, words("x"), want)
	long := slices.Repeat([]byte{'9'}, api.MaxDigits)
	square := poly.Mul(term(string(long)), term(string(long)))
	text, e := polytext.Print(square, nil)
	if len(text) != 2*api.MaxDigits || e != api.OK {
		t.Errorf("a square has the text %s, %d", text, e)
	}
}

// P7.1: the errors in their order.
func TestPrintErrors(t *testing.T) {
	wrong := api.Poly{term("1")[0], term("1", 1)[0]}
	for what, x := range map[string]struct {
		p     api.Poly
		names []string
		want  api.Errno
	}{
		"order of terms":            {wrong, words("x"), api.ErrArg},
		"coefficient 0":             {api.Poly{{Coef: number("0")}}, words("x"), api.ErrArg},
		"zero value":                {api.Poly{{}}, words("x"), api.ErrArg},
		"lowest terms":              {api.Poly{{Coef: api.Rat{Num: api.Int{Abs: api.Nat{2}}, Den: api.Nat{4}}}}, nil, api.ErrArg},
		"zeros behind exponents":    {api.Poly{{Coef: number("1"), Mono: api.Mono{1, 0}}}, words("x y"), api.ErrArg},
		"great exponent":            {api.Poly{{Coef: number("1"), Mono: api.Mono{api.MaxExp + 1}}}, words("x y"), api.ErrArg},
		"polynomial before names":   {wrong, words("1 x x"), api.ErrArg},
		"not a name":                {term("1", 1), words("x 1"), api.ErrForm},
		"not a name, behind twice":  {term("1", 1), words("x x 1"), api.ErrForm},
		"not a name, variable":      {term("1", 0, 0, 0, 1), words("x -"), api.ErrForm},
		"twice":                     {nil, words("x y x"), api.ErrTwice},
		"twice, variable":           {term("1", 0, 0, 0, 1), words("x x"), api.ErrTwice},
		"no names":                  {term("1", 1), nil, api.ErrName},
		"last variable":             {sum(term("1", 1), term("1", 0, 0, 1)), words("x y"), api.ErrName},
		"variable in the last term": {sum(term("1", 0, 0, 1), term("1", 0, 1)), words("x"), api.ErrName},
		"name behind MaxVars":       {nil, append(manyNames(api.MaxVars+2), ""), api.ErrForm},
		"twice behind MaxVars":      {nil, append(manyNames(api.MaxVars+2), "v65"), api.ErrTwice},
		"twice around MaxVars":      {nil, append(manyNames(api.MaxVars), "v7"), api.ErrTwice},
	} {
		if got, e := polytext.Print(x.p, x.names); got != "" || e != x.want {
			t.Errorf("Print with a wrong %s returns %q, %d, want %d", what, got, e, x.want)
		}
	}
}

// P7.1 and P7.2: names, and what is none.
func TestNames(t *testing.T) {
	for _, name := range []string{"x", "Q", "_", ".", "$", "...", "a1", "A.x", "t$12", "_9", "zZ09_.$"} {
		expectText(t, poly.Var(0), []string{name}, name)
		expectPoly(t, name, []string{name}, poly.Var(0))
	}
	for _, name := range []string{"", "1", "9x", "0_", "a b", " a", "a ", "a-b", "a+", "x^", "x*y", "x/y", "a\n", "\x00", "é", "aé", "\xff", "a\xc3", "a\u0661", "\u0661", "Ａ", "a@", "`", "[", "{", "/", ":", "a:", "a/", "a,b", "#"} {
		if text, e := polytext.Print(nil, []string{name}); text != "" || e != api.ErrForm {
			t.Errorf("Print with the name %q returns %q, %d", name, text, e)
		}
		expectError(t, "1", []string{"x", name}, 0, api.ErrForm)
	}
}
