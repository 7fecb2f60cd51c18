package polytext_test

import (
	"regexp"
	"slices"
	"strings"
	"testing"

	"geoprover/api"
	"geoprover/poly"
	"geoprover/polytext"
)

// P7.2
func TestRead(t *testing.T) {
	xy := words("x y")
	for s, want := range map[string]api.Poly{
		"0":                        nil,
		"-0":                       nil,
		"7":                        term("7"),
		"-7":                       term("-7"),
		"0/5":                      nil,
		"6/4":                      term("3/2"),
		"-6/3":                     term("-2"),
		"x":                        term("1", 1),
		"-x":                       term("-1", 1),
		"y^3":                      term("1", 0, 3),
		"x^0":                      term("1"),
		"5*x^0*y^1":                term("5", 0, 1),
		"1*x":                      term("1", 1),
		"2/4*x":                    term("1/2", 1),
		"-1/2*x^2*y":               term("-1/2", 2, 1),
		"y*x":                      term("1", 1, 1),
		"x*y*x":                    term("1", 2, 1),
		"x^2*x^3":                  term("1", 5),
		"x + x":                    term("2", 1),
		"x - x":                    nil,
		"0*x":                      nil,
		"-0*x^5 + 3":               term("3"),
		"1 + x + y":                sum(term("1"), term("1", 1), term("1", 0, 1)),
		"-1 - x - 1/3*y^2":         sum(term("-1"), term("-1", 1), term("-1/3", 0, 2)),
		"x*y - 2*y*x + 1/2*x^1*y":  term("-1/2", 1, 1),
		"x + 1 - x - 1/2 + y":      sum(term("1/2"), term("1", 0, 1)),
		"12345678901234567890/3*x": term("4115226300411522630", 1),
		"x^1048576 + y^1048576*x":  sum(term("1", api.MaxExp), term("1", 1, api.MaxExp)),
		"-y^2 + 1/2*x^2*y^0 - 1":   sum(term("-1", 0, 2), term("1/2", 2), term("-1")),
		"x^1048575*x - x^1048576":  nil,
		"x^1048576*x^0*y^1048576":  term("1", api.MaxExp, api.MaxExp),
	} {
		expectPoly(t, s, xy, want)
	}
}

// P7.2: names are as long as possible.
func TestReadNames(t *testing.T) {
	names := words("x xx x.y . $ _1 A")
	for s, want := range map[string]api.Poly{
		"xx":           poly.Var(1),
		"x*x":          term("1", 2),
		"x.y":          poly.Var(2),
		".":            poly.Var(3),
		"2*.^2":        term("2", 0, 0, 0, 2),
		"$*_1^3":       term("1", 0, 0, 0, 0, 1, 3),
		"A - x + xx^4": sum(poly.Var(6), term("-1", 1), term("1", 0, 4)),
	} {
		expectPoly(t, s, names, want)
	}
	for s, at := range map[string]int{"xxx": 0, "x.": 0, "a": 0, "x + y": 4, "1/2*$1": 4, "x*.x^2": 2, "..": 0, "x1": 0, "X": 0} {
		expectError(t, s, names, at, api.ErrName)
	}
	expectError(t, "x", nil, 0, api.ErrName)
	expectPoly(t, "-3", nil, term("-3"))
}

// P7.2: more names than variables.
func TestReadManyNames(t *testing.T) {
	names := manyNames(api.MaxVars + 3)
	expectPoly(t, "v63 + v0", names, poly.Add(poly.Var(api.MaxVars-1), poly.Var(0)))
	expectError(t, "v0 + v64", names, 5, api.ErrName)
	expectError(t, "v66^2", names, 0, api.ErrName)
}

// P7.2: the error of names comes before all others.
func TestReadNameErrors(t *testing.T) {
	for _, s := range []string{"", "x", "x+", "1/0", "q"} {
		expectError(t, s, words("x y x"), 0, api.ErrTwice)
		expectError(t, s, words("x y x 1"), 0, api.ErrForm)
		expectError(t, s, []string{"x", ""}, 0, api.ErrForm)
		expectError(t, s, append(manyNames(api.MaxVars+1), "v64"), 0, api.ErrTwice)
		expectError(t, s, append(manyNames(api.MaxVars+1), "v64", "0"), 0, api.ErrForm)
	}
}

// P7.2
func TestReadErrForm(t *testing.T) {
	for s, at := range map[string]int{
		"x+1": 1, "007": 1, "00": 1, "-01": 2, "+x": 0, " x": 0, "--x": 1, "- x": 1, "x  + 1": 2, "x +1": 3, "x +  1": 4, "x + -1": 4, "x - -1": 4, "x-1": 1,
		"x * y": 2, "2x": 1, "2.5": 1, "2_": 1, "2*3": 2, "x*2": 2, "2**x": 2, "x**y": 2, "*x": 0, "2/x": 2, "1/2/3": 3, "1//2": 2, "1/-2": 2, "x/2": 1, "/2": 0,
		"x^y": 2, "x^-1": 2, "x^2^3": 3, "x^^2": 2, "^2": 0, "x^02": 3, "x^2y": 3, "2^3": 1, "(x)": 0, "x y": 2, "x\n": 1, "x\x00": 1, "é": 0, "xé": 1, "1 + \xff": 4, "x\t+ 1": 1, "1 +\t1": 3, "x +- y": 3, "0x": 1, "1/2x": 3, "1:": 1, "x = y": 2, "x - y;": 5,
	} {
		expectError(t, s, words("x y"), at, api.ErrForm)
	}
}

// P7.2
func TestReadErrEnd(t *testing.T) {
	for _, s := range []string{"", "-", "x ", "x +", "x -", "x + ", "x - ", "2*", "1/", "-1/", "x^", "x*", "x^2*", "1/2*", "1/2*x^", "x + 3 - 1/2*y*x^"} {
		expectError(t, s, words("x y"), len(s), api.ErrEnd)
	}
}

// P7.2: a numeral or a name is examined before the byte behind it is refused; what stands further left is examined before.
func TestReadOrder(t *testing.T) {
	tooLong := strings.Repeat("1", api.MaxDigits+1)
	for _, x := range []struct {
		s  string
		at int
		e  api.Errno
	}{
		{"z", 0, api.ErrName},
		{"z+", 0, api.ErrName},
		{"zé", 0, api.ErrName},
		{"z^z", 0, api.ErrName},
		{"z*", 0, api.ErrName},
		{"z + 1/0", 0, api.ErrName},
		{"1/0 + z", 2, api.ErrZero},
		{"1/0", 2, api.ErrZero},
		{"-x + 0/0*x", 7, api.ErrZero},
		{"1/0x", 2, api.ErrZero},
		{"1/00", 2, api.ErrZero},
		{"1/01", 2, api.ErrZero},
		{"1/0/", 2, api.ErrZero},
		{"01/0", 1, api.ErrForm},
		{"x+z", 1, api.ErrForm},
		{"x +z", 3, api.ErrForm},
		{"x^2^z", 3, api.ErrForm},
		{tooLong, 0, api.ErrLarge},
		{tooLong + "x", 0, api.ErrLarge},
		{tooLong + "/0", 0, api.ErrLarge},
		{"-" + tooLong, 1, api.ErrLarge},
		{"1/" + tooLong, 2, api.ErrLarge},
		{"0" + tooLong, 1, api.ErrForm},
		{"x^" + tooLong, 2, api.ErrLarge},
		{"z^" + tooLong, 0, api.ErrName},
		{"x^1048577", 2, api.ErrLarge},
		{"x^1048577x", 2, api.ErrLarge},
		{"3*x^18446744073709551617", 4, api.ErrLarge},
		{"y + 3*x^1048576*y*x", 4, api.ErrLarge},
		{"-x^1048576*x", 1, api.ErrLarge},
		{"x - y^1048575*y^2*z", 4, api.ErrLarge},
		{"x - y^1048575*y^2^", 4, api.ErrLarge},
		{"x - y^1048575*y^2", 4, api.ErrLarge},
		{"x^1048576*x^1048576", 0, api.ErrLarge},
		{"x^1048576*x+", 0, api.ErrLarge},
		{"x^1048576*x^", 12, api.ErrEnd},
		{"x^1048576*x^1048577", 12, api.ErrLarge},
		{"x^1048576*z*x", 10, api.ErrName},
		{"x^1048576*2", 10, api.ErrForm},
		{"0*x^1048576*x", 0, api.ErrLarge},
		{"5*x^1048576*y^1048576*", 22, api.ErrEnd},
	} {
		expectError(t, x.s, words("x y"), x.at, x.e)
	}
}

// P7.2: the limits themselves are permitted.
func TestReadLimits(t *testing.T) {
	long := strings.Repeat("9", api.MaxDigits)
	expectPoly(t, long, nil, term(long))
	expectPoly(t, "-"+long+"/"+long+"*x", words("x"), term("-1", 1))
	expectPoly(t, "1/"+long+" + x^1048576", words("x"), sum(term("1/"+long), term("1", api.MaxExp)))
	expectPoly(t, long+" + "+long, nil, poly.Scale(term(long), number("2")))
	many := "x" + strings.Repeat(" + x", api.MaxTerms-1)
	expectPoly(t, many, words("x"), term("4000", 1))
	expectPoly(t, "-"+many, words("x"), term("3998", 1))
	for _, more := range []string{" + x", " - x", " + 0", " - z", " + 1/0", " + 007", " + x + x", " + x^"} {
		expectError(t, many+more, words("x"), len(many)+3, api.ErrLarge)
	}
	expectError(t, "-"+many+" + x", words("x"), len(many)+4, api.ErrLarge)
	expectError(t, many+" +x", words("x"), len(many)+2, api.ErrForm)
	expectError(t, many+" +", words("x"), len(many)+2, api.ErrEnd)
	expectError(t, many[:len(many)-1]+"z", words("x"), len(many)-1, api.ErrName)
}

// The form of sums, as the document describes it.
var (
	power  = `[a-z][a-z0-9]*(\^(0|[1-9][0-9]*))?`
	factor = power + `(\*` + power + `)*`
	coef   = `(0|[1-9][0-9]*)(/(0|[1-9][0-9]*))?`
	aTerm  = `(` + coef + `|` + coef + `\*` + factor + `|` + factor + `)`
	form   = regexp.MustCompile(`^-?` + aTerm + `( [+-] ` + aTerm + `)*$`)
	token  = regexp.MustCompile(`[a-z][a-z0-9]*|0|[1-9][0-9]*`)
)

// begins reports whether some sum begins with s: one of the shortest ends makes a sum of s.
func begins(s string) bool {
	return slices.ContainsFunc([]string{"", "1", "x", " 1", "+ 1"}, func(end string) bool { return form.MatchString(s + end) })
}

// firstError returns the error of Read for s with the names x and y, for small numerals, and its offset: the first name or numeral that is wrong, or the end of the sum.
func firstError(s string) (at int, e api.Errno) {
	end := 0
	for end < len(s) && begins(s[:end+1]) {
		end++
	}
	for _, span := range token.FindAllStringIndex(s[:end], -1) {
		text := s[span[0]:span[1]]
		switch {
		case span[0] > 0 && s[span[0]-1] == '/' && text == "0":
			return span[0], api.ErrZero
		case text[0] >= 'a' && text != "x" && text != "y":
			return span[0], api.ErrName
		}
	}
	switch {
	case end < len(s):
		return end, api.ErrForm
	case !form.MatchString(s):
		return end, api.ErrEnd
	}
	return 0, api.OK
}

// P7.2 and P7.3: random texts, compared with the form of sums; what stands before the offset of ErrForm is a beginning of sums.
func TestReadRandom(t *testing.T) {
	r := newSource()
	pieces := []string{"x", "y", "x", "y", "z", "0", "1", "2", "10", "1/", "1/", "*", "*", "^", "^", "-", " + ", " + ", " - ", " ", "+"}
	counts := map[api.Errno]int{}
	for range 200 * rounds {
		var s string
		for range r.Intn(9) {
			s += pieces[r.Intn(len(pieces))]
		}
		at, e := firstError(s)
		_, gotAt, gotE := polytext.Read(s, words("x y"))
		if gotAt != at || gotE != e {
			t.Fatalf("Read(%q) returns the offset %d and the error %d, want %d and %d", s, gotAt, gotE, at, e)
		}
		if _, _, before := polytext.Read(s[:at], words("x y")); e == api.ErrForm && before != api.OK && before != api.ErrEnd {
			t.Fatalf("%q is no beginning of sums: %d", s[:at], before)
		}
		counts[e]++
	}
	for _, e := range []api.Errno{api.OK, api.ErrForm, api.ErrEnd, api.ErrName, api.ErrZero} {
		if counts[e] < rounds/4 {
			t.Errorf("only %d texts have the error %d", counts[e], e)
		}
	}
}

// P7.3: Read of Print is the polynomial, and different polynomials have different texts.
func TestReadOfPrint(t *testing.T) {
	r := newSource()
	names := words("x y. $z")
	polys := map[string]api.Poly{}
	for range 5 * rounds {
		p := randomPoly(r, 6, len(names))
		text, e := polytext.Print(p, names)
		if e != api.OK {
			t.Fatalf("Print(%v): %d", p, e)
		}
		expectPoly(t, text, names, p)
		if q, ok := polys[text]; ok && !poly.Equal(p, q) {
			t.Fatalf("%v and %v have the text %s", p, q, text)
		}
		polys[text] = p
	}
	for _, p := range []api.Poly{nil, dense(api.MaxTerms), term(strings.Repeat("8", api.MaxDigits), 3), poly.Var(2)} {
		text, _ := polytext.Print(p, names)
		expectPoly(t, text, names, p)
	}
}

// P7.2: the terms of a sum may stand in any order, and be divided.
func TestReadSums(t *testing.T) {
	r := newSource()
	names := words("x y z")
	for range rounds {
		var s string
		var want api.Poly
		for i := range 1 + r.Intn(7) {
			p := randomPoly(r, 1, len(names))
			text, _ := polytext.Print(p, names)
			if abs, neg := strings.CutPrefix(text, "-"); neg && i > 0 {
				s += " - " + abs
			} else if i > 0 {
				s += " + " + text
			} else {
				s = text
			}
			want = poly.Add(want, p)
		}
		expectPoly(t, s, names, want)
	}
}
