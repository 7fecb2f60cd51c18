package parser_test

import (
	"math/rand"
	"regexp"
	"slices"
	"strconv"
	"strings"
	"testing"

	"geoprover/api"
	"geoprover/parser"
	"geoprover/rational"
)

// letters returns the names A to H.
func letters() []string { return strings.Split("ABCDEFGH", "") }

// fact returns the fact of this kind with these arguments.
func fact(kind int, args ...int) api.Fact { return api.Fact{Kind: kind, Args: args} }

// ratio returns the FactRatio with these arguments and this Ratio.
func ratio(r string, args ...int) api.Fact {
	return api.Fact{Kind: api.FactRatio, Args: args, Ratio: number(r)}
}

// P17.3: each kind of facts.
func TestFact(t *testing.T) {
	expectFact(t, "collinear(A, B, C)", letters(), fact(api.FactCollinear, 0, 1, 2))
	expectFact(t, "parallel(B, A, C, H)", letters(), fact(api.FactParallel, 1, 0, 2, 7))
	expectFact(t, "perpendicular(A, A, A, B)", letters(), fact(api.FactPerpendicular, 0, 0, 0, 1))
	expectFact(t, "congruent(D, C, B, A)", letters(), fact(api.FactCongruent, 3, 2, 1, 0))
	expectFact(t, "midpoint(C, A, B)", letters(), fact(api.FactMidpoint, 2, 0, 1))
	expectFact(t, "concyclic(A, B, C, D)", letters(), fact(api.FactConcyclic, 0, 1, 2, 3))
	expectFact(t, "angle(A, B, C, D, E, F, G, H)", letters(), fact(api.FactAngle, 0, 1, 2, 3, 4, 5, 6, 7))
	expectFact(t, "angle(A, B, C, D, E, F)", letters(), fact(api.FactAngle, 1, 0, 1, 2, 4, 3, 4, 5))
	expectFact(t, "angle(H,G,F,E,D,C)", letters(), fact(api.FactAngle, 6, 7, 6, 5, 3, 4, 3, 2))
	expectFact(t, "same(A, B)", letters(), fact(api.FactSame, 0, 1))
	expectFact(t, "ratio(A, B, C, D, 2)", letters(), ratio("2", 0, 1, 2, 3))
}

// P17.3: blanks between the parts, and names of any bytes.
func TestFactParts(t *testing.T) {
	expectFact(t, "collinear(A,$2 , B)", []string{"A", "B", "$2"}, fact(api.FactCollinear, 0, 2, 1))
	expectFact(t, "\t\r\n same \t( \nA\r,B\n\n)\t ", letters(), fact(api.FactSame, 0, 1))
	expectFact(t, "same(A,B)", letters(), fact(api.FactSame, 0, 1))
	expectFact(t, "same(#,;)", []string{";", "#"}, fact(api.FactSame, 1, 0))
	expectFact(t, "same(on,same)", []string{"same", "on"}, fact(api.FactSame, 1, 0))
	expectFact(t, "same(Ä\xff\x00,1/2-:=)", []string{"1/2-:=", "Ä\xff\x00"}, fact(api.FactSame, 1, 0))
	expectFact(t, "same(a\vb,a\u00a0b)", []string{"a\u00a0b", "a\vb"}, fact(api.FactSame, 1, 0))
	expectFact(t, "ratio(1,1,1,2,1)", []string{"2", "1"}, ratio("1", 1, 1, 1, 0))
	long := strings.Repeat("n", api.MaxName+1)
	expectFact(t, "same("+long+","+long+")", []string{long}, fact(api.FactSame, 0, 0))
}

// P17.3: a name stands for its first index.
func TestFactNames(t *testing.T) {
	expectFact(t, "collinear(A,B,C)", []string{"A", "C", "A", "B", "B", "C"}, fact(api.FactCollinear, 0, 3, 1))
	expectFact(t, "same(a,A)", []string{"A", "a"}, fact(api.FactSame, 1, 0))
	expectFact(t, "same(A,B)", []string{"", "B", "", "A"}, fact(api.FactSame, 3, 1))
	many := make([]string, 3000)
	for i := range many {
		many[i] = "P" + strconv.Itoa(i%2500)
	}
	expectFact(t, "same(P2499,P17)", many, fact(api.FactSame, 2499, 17))
}

// P17.3: a sign is a part in its own right; where a name is required it stands for a point only if it is the name of one.
func TestSignsAsNames(t *testing.T) {
	expectFact(t, "same((,,)", []string{",", "("}, fact(api.FactSame, 1, 0))
	expectFactError(t, "same(A(,B)", []string{"A(", "A", "B"}, 6, api.ErrSyntax)
	expectFactError(t, "same(A,B C)", []string{"A", "B C", "B"}, 9, api.ErrSyntax)
}

// P17.3: errors.
func TestFactErrors(t *testing.T) {
	for _, x := range []wrong{
		{"same(A, X)", 8, api.ErrName},
		{"same(A)", 6, api.ErrSyntax},
		{"", 0, api.ErrSyntax},
		{" ", 1, api.ErrSyntax},
		{"\t\n", 2, api.ErrSyntax},
		{"#", 0, api.ErrSyntax},
		{"A", 0, api.ErrSyntax},
		{"(", 0, api.ErrSyntax},
		{"Same(A,B)", 0, api.ErrSyntax},
		{"same2(A,B)", 0, api.ErrSyntax},
		{"foot(A,B)", 0, api.ErrSyntax},
		{" line(A,B)", 1, api.ErrSyntax},
		{"points", 0, api.ErrSyntax},
		{"same", 4, api.ErrSyntax},
		{"same ", 5, api.ErrSyntax},
		{"same A", 5, api.ErrSyntax},
		{"same,", 4, api.ErrSyntax},
		{"same(", 5, api.ErrSyntax},
		{"same()", 5, api.ErrSyntax},
		{"same((A,B)", 5, api.ErrSyntax},
		{"same(,A)", 5, api.ErrSyntax},
		{"same(a,B)", 5, api.ErrName},
		{"same(X", 5, api.ErrName},
		{"same(X,Y", 5, api.ErrName},
		{"same(A", 6, api.ErrSyntax},
		{"same(A B)", 7, api.ErrSyntax},
		{"same(A X)", 7, api.ErrSyntax},
		{"same(A,", 7, api.ErrSyntax},
		{"same(A, ", 8, api.ErrSyntax},
		{"same(A,)", 7, api.ErrSyntax},
		{"same(A,,B)", 7, api.ErrSyntax},
		{"same(A,B", 8, api.ErrSyntax},
		{"same(A,B,", 8, api.ErrSyntax},
		{"same(A,B,C)", 8, api.ErrSyntax},
		{"same(A,B,X)", 8, api.ErrSyntax},
		{"same(A,B,1)", 8, api.ErrSyntax},
		{"same(A,B))", 9, api.ErrSyntax},
		{"same(A,B);", 9, api.ErrSyntax},
		{"same(A,B) same(A,C)", 10, api.ErrSyntax},
		{"same(A,B) # c", 10, api.ErrSyntax},
		{"same(A;B)", 5, api.ErrName},
		{"same(A,#B)", 7, api.ErrName},
		{"collinear(A,B)", 13, api.ErrSyntax},
		{"collinear(A,B,C,D)", 15, api.ErrSyntax},
		{"midpoint(A,B)", 12, api.ErrSyntax},
		{"parallel(A,B,C)", 14, api.ErrSyntax},
		{"parallel(line(A,B),line(C,D))", 9, api.ErrName},
		{"congruent(A,B,C,D,2)", 17, api.ErrSyntax},
	} {
		expectFactError(t, x.s, letters(), x.at, x.e)
	}
	expectFactError(t, "same(A,B)", nil, 5, api.ErrName)
	expectFactError(t, "same(", []string{""}, 5, api.ErrSyntax)
	expectFactError(t, "same(,", []string{""}, 5, api.ErrSyntax)
	expectFactError(t, "same(A, C)", []string{"A", "B", "$2"}, 8, api.ErrName)
}

// P17.3: an angle has six names or eight.
func TestFactAngles(t *testing.T) {
	for _, x := range []wrong{
		{"angle()", 6, api.ErrSyntax},
		{"angle(A,B,C,D)", 13, api.ErrSyntax},
		{"angle(A,B,C,D,E)", 15, api.ErrSyntax},
		{"angle(A,B,C,D,E,F", 17, api.ErrSyntax},
		{"angle(A,B,C,D,E,F G", 18, api.ErrSyntax},
		{"angle(A,B,C,D,E,F(", 17, api.ErrSyntax},
		{"angle(A,B,C,D,E,F,", 18, api.ErrSyntax},
		{"angle(A,B,C,D,E,F,)", 18, api.ErrSyntax},
		{"angle(A,B,C,D,E,F,X)", 18, api.ErrName},
		{"angle(A,B,C,D,E,F,G)", 19, api.ErrSyntax},
		{"angle(A,B,C,D,E,F,G", 19, api.ErrSyntax},
		{"angle(A,B,C,D,E,F,G H)", 20, api.ErrSyntax},
		{"angle(A,B,C,D,E,F,G,)", 20, api.ErrSyntax},
		{"angle(A,B,C,D,E,F,G,X)", 20, api.ErrName},
		{"angle(A,B,C,D,E,F,G,H", 21, api.ErrSyntax},
		{"angle(A,B,C,D,E,F,G,H,A)", 21, api.ErrSyntax},
		{"angle(A,B,C,D,E,X)", 16, api.ErrName},
		{"angle(A,B,C,D,E,F))", 18, api.ErrSyntax},
	} {
		expectFactError(t, x.s, letters(), x.at, x.e)
	}
}

// P17.3: the number of a ratio is what rational.Read reads.
func TestFactRatios(t *testing.T) {
	most := strings.Repeat("7", api.MaxDigits)
	for _, s := range []string{"0", "1", "-1", "2/4", "-6/4", "0/5", "65536/65537", most, "-" + most, "1/" + most, "-" + most + "/" + most} {
		want, e := rational.Read(s)
		if e != api.OK {
			t.Fatalf("%s is no number", s)
		}
		f := api.Fact{Kind: api.FactRatio, Args: []int{0, 1, 2, 3}, Ratio: want}
		expectFact(t, "ratio(A,B,C,D,"+s+")", letters(), f)
		expectFact(t, "ratio(A, B, C, D, "+s+" ) ", letters(), f)
	}
	for s, e := range map[string]api.Errno{
		"1/0": api.ErrZero, "0/0": api.ErrZero, "-1/0": api.ErrZero, "1/": api.ErrEnd, "/": api.ErrEnd, "/2": api.ErrEnd, "-": api.ErrEnd, "-/2": api.ErrEnd,
		"-0": api.ErrForm, "-0/1": api.ErrForm, "x": api.ErrForm, "A": api.ErrForm, "+1": api.ErrForm, "01": api.ErrForm, "1/02": api.ErrForm, "1/-2": api.ErrForm, "--1": api.ErrForm,
		"1/2/3": api.ErrForm, "1.5": api.ErrForm, "1;": api.ErrForm, "#1": api.ErrForm, most + "7": api.ErrLarge, "1/" + most + "7": api.ErrLarge, "-" + most + "7/0": api.ErrLarge,
	} {
		for _, end := range []string{")", " )", "", ",", " A"} {
			expectFactError(t, "ratio(A,B,C,D,"+s+end, letters(), 14, e)
		}
	}
	for _, x := range []wrong{
		{"ratio(A,B,C,D)", 13, api.ErrSyntax},
		{"ratio(A,B,C,D", 13, api.ErrSyntax},
		{"ratio(A,B,C,D 1)", 14, api.ErrSyntax},
		{"ratio(A,B,C,D,", 14, api.ErrSyntax},
		{"ratio(A,B,C,D, ", 15, api.ErrSyntax},
		{"ratio(A,B,C,D,)", 14, api.ErrSyntax},
		{"ratio(A,B,C,D,,1)", 14, api.ErrSyntax},
		{"ratio(A,B,C,D,(1)", 14, api.ErrSyntax},
		{"ratio(A,B,C,D,1", 15, api.ErrSyntax},
		{"ratio(A,B,C,D,1,2)", 15, api.ErrSyntax},
		{"ratio(A,B,C,D,1 /2)", 16, api.ErrSyntax},
		{"ratio(A,B,C,D,- 1)", 14, api.ErrEnd},
		{"ratio(A,B,C,1)", 12, api.ErrName},
		{"ratio(A,B,C,1/0)", 12, api.ErrName},
	} {
		expectFactError(t, x.s, letters(), x.at, x.e)
	}
}

// P17.3: texts of the greatest length, and of a byte more.
func TestFactMaxSource(t *testing.T) {
	s := "same(A,B)" + strings.Repeat(" ", api.MaxSource-9)
	expectFact(t, s, letters(), fact(api.FactSame, 0, 1))
	expectFactError(t, s+" ", letters(), 0, api.ErrLarge)
	expectFactError(t, s+")", letters(), 0, api.ErrLarge)
	expectFactError(t, s[1:]+"A", letters(), 0, api.ErrSyntax)
	expectFactError(t, s[:api.MaxSource-1]+"A", letters(), api.MaxSource-1, api.ErrSyntax)
	long := strings.Repeat("n", api.MaxSource-8)
	expectFact(t, "same(A,"+long+")", []string{"A", long}, fact(api.FactSame, 0, 1))
	expectFactError(t, "same(A,"+long+")", letters(), 7, api.ErrName)
	expectFactError(t, "same(AA,"+long+")", letters(), 0, api.ErrLarge)
	expectFactError(t, strings.Repeat("$", api.MaxSource+1), letters(), 0, api.ErrLarge)
	expectFactError(t, strings.Repeat(" ", api.MaxSource), letters(), api.MaxSource, api.ErrSyntax)
}

// forms returns the forms that a fact with this word can have: what its parts must be, where n is a name and r a number.
func forms(word string) []string {
	names := map[string][]int{"collinear": {3}, "parallel": {4}, "perpendicular": {4}, "congruent": {4}, "midpoint": {3}, "concyclic": {4}, "angle": {6, 8}, "same": {2}, "ratio": {4}}[word]
	var l []string
	for _, n := range names {
		end := map[bool]string{true: " , r )", false: " )"}[word == "ratio"]
		l = append(l, word+" ("+strings.TrimPrefix(strings.Repeat(" , n", n), " ,")+end)
	}
	return l
}

// factError returns the offset and the error that Fact returns for s by the definitions of the chapter: those of the form that fits the most parts.
func factError(s string, names []string) (at int, e api.Errno) {
	parts := regexp.MustCompile(`[(),]|[^(), \t\r\n]+`).FindAllStringIndex(s, -1)
	text := func(i int) string { return s[parts[i][0]:parts[i][1]] }
	if len(parts) == 0 {
		return len(s), api.ErrSyntax
	}
	if forms(text(0)) == nil {
		return parts[0][0], api.ErrSyntax
	}
	fit, need := -1, ""
	for _, form := range forms(text(0)) {
		l, i := strings.Fields(form), 0
		for i < len(parts) && i < len(l) && partError(l[i], text(i), names) == api.OK {
			i++
		}
		if i == len(l) && i == len(parts) {
			return 0, api.OK
		}
		if i > fit {
			fit, need = i, append(l, "")[i] // nothing behind the end of the form
		}
	}
	if fit == len(parts) {
		return len(s), api.ErrSyntax
	}
	return parts[fit][0], partError(need, text(fit), names)
}

// partError returns the error of a part where the form requires need.
func partError(need, part string, names []string) api.Errno {
	isSign := strings.Contains("(),", part)
	switch {
	case need == "n" && slices.Contains(names, part) || need == part:
		return api.OK
	case need == "n" && !isSign:
		return api.ErrName
	case need == "r" && !isSign:
		_, e := rational.Read(part)
		return e
	}
	return api.ErrSyntax
}

// randomFact returns a right fact about so many points, and its parts with these names.
func randomFact(r *rand.Rand, names []string) (api.Fact, []string) {
	words := []string{"", "collinear", "parallel", "perpendicular", "congruent", "midpoint", "concyclic", "angle", "same", "ratio"}
	f := api.Fact{Kind: 1 + r.Intn(9)}
	l := forms(words[f.Kind])
	parts := strings.Fields(l[r.Intn(len(l))])
	for i, need := range parts {
		switch need {
		case "n":
			p := r.Intn(len(names))
			f.Args = append(f.Args, p)
			parts[i] = names[p]
		case "r":
			parts[i] = pick(r, "0", "1", "-1/2", "6/4", "-12/7", "70000/3")
			f.Ratio = number(parts[i])
		}
	}
	if a := f.Args; len(a) == 6 {
		f.Args = []int{a[1], a[0], a[1], a[2], a[4], a[3], a[4], a[5]}
	}
	return f, parts
}

// spread returns the parts with random blanks between them.
func spread(r *rand.Rand, parts []string) string {
	s := ""
	for _, part := range parts {
		for strings.Trim(part, "(),") != "" && s != "" && !strings.ContainsAny(s[len(s)-1:], "(), \t\r\n") || r.Intn(4) == 0 {
			s += pick(r, " ", "\t", "\r", "\n")
		}
		s += part
	}
	return s + pick(r, "", "", " ", "\n")
}

// P17.3: random facts, with and without errors.
func TestRandomFacts(t *testing.T) {
	r, count := newSource(), map[api.Errno]int{}
	names := []string{"A", "B", "C", "$2", "same", "#;", "ä", "1"}
	for range 3 * rounds {
		f, parts := randomFact(r, names)
		expectFact(t, spread(r, parts), names, f)
		for range 1 + r.Intn(2) {
			at := r.Intn(len(parts) + 1)
			other := pick(r, "(", ")", ",", "A", "X", "angle", "ratio", "1/0", "-0", "7", "1/")
			parts = slices.Concat(parts[:at], [][]string{{other}, nil}[r.Intn(2)], parts[min(at+r.Intn(2), len(parts)):])
		}
		s := spread(r, parts)
		at, e := factError(s, names)
		count[e]++
		if e != api.OK {
			expectFactError(t, s, names, at, e)
		} else if _, at, e = parser.Fact(s, names); at != 0 || e != api.OK {
			t.Fatalf("Fact(%q) returns %d, %d", s, at, e)
		}
	}
	if count[api.OK] < 20 || count[api.ErrSyntax] < rounds || count[api.ErrName] < 20 || count[api.ErrZero]+count[api.ErrForm]+count[api.ErrEnd] < 5 {
		t.Errorf("the numbers of errors are %v", count)
	}
}

// P17.3: texts of any bytes.
func TestRandomFactBytes(t *testing.T) {
	r := newSource()
	names := []string{"A", "B", "", "$", "\xff", "A B", "A,B"}
	for range 4 * rounds {
		b := make([]byte, r.Intn(10))
		for i := range b {
			b[i] = byte(r.Intn(256))
			if r.Intn(8) > 0 {
				b[i] = "AB(),,$ \n1/"[r.Intn(11)]
			}
		}
		s := pick(r, "", "same", "same(", "same(A,", "ratio(A,B,A,B,", "angle(A,A,A,A,A,") + string(b)
		at, e := factError(s, names)
		if _, gotAt, gotE := parser.Fact(s, names); gotAt != at || gotE != e {
			t.Fatalf("Fact(%q) returns %d, %d, want %d, %d", s, gotAt, gotE, at, e)
		}
	}
}
