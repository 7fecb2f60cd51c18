package lexer_test

import (
	"slices"
	"strings"
	"testing"

	"geoprover/api"
	"geoprover/lexer"
)

// P15.1: kinds, offsets and texts.
func TestAll(t *testing.T) {
	expectTokens(t, "A:=on(l);", []api.Token{
		{Kind: api.TkName, Pos: 0, End: 1, Text: "A"},
		{Kind: api.TkSign, Pos: 1, End: 3, Text: ":="},
		{Kind: api.TkName, Pos: 3, End: 5, Text: "on"},
		{Kind: api.TkSign, Pos: 5, End: 6, Text: "("},
		{Kind: api.TkName, Pos: 6, End: 7, Text: "l"},
		{Kind: api.TkSign, Pos: 7, End: 8, Text: ")"},
		{Kind: api.TkSign, Pos: 8, End: 9, Text: ";"},
		{Kind: api.TkEnd, Pos: 9, End: 9},
	})
	expectTokens(t, "\t-10 # x\n/ Ab3,", []api.Token{
		{Kind: api.TkSign, Pos: 1, End: 2, Text: "-"},
		{Kind: api.TkNumber, Pos: 2, End: 4, Text: "10"},
		{Kind: api.TkSign, Pos: 9, End: 10, Text: "/"},
		{Kind: api.TkName, Pos: 11, End: 14, Text: "Ab3"},
		{Kind: api.TkSign, Pos: 14, End: 15, Text: ","},
		{Kind: api.TkEnd, Pos: 15, End: 15},
	})
}

// P15.1: sources without tokens have the end alone.
func TestEmpty(t *testing.T) {
	for _, s := range []string{"", " ", "\t", "\r", "\n", " \t\r\n\n", "#", "# a comment", "#\n", "# a\n# b", " # $ 07 : é\x00\xff\n\t#a:=#\r\n"} {
		expectTokens(t, s, []api.Token{{Kind: api.TkEnd, Pos: len(s), End: len(s)}})
	}
}

// P15.1: where tokens begin and end.
func TestBounds(t *testing.T) {
	for s, want := range map[string]string{
		"3a":                      "23 1a",
		"a3":                      "1a3",
		"3a3":                     "23 1a3",
		"0":                       "20",
		"0a":                      "20 1a",
		"a0":                      "1a0",
		"a07":                     "1a07",
		"0 7":                     "20 27",
		"0-0/0":                   "20 3- 20 3/ 20",
		"100":                     "2100",
		"a#b\nc":                  "1a 1c",
		"a#b":                     "1a",
		"a#b\r":                   "1a",
		"a#b\rc\nd":               "1a 1d",
		"1#2\n3":                  "21 23",
		"a#\n#b\n:=":              "1a 3:=",
		"()":                      "3( 3)",
		":=:=":                    "3:= 3:=",
		"--//,,;;":                "3- 3- 3/ 3/ 3, 3, 3; 3;",
		"a\tb\rc\nd":              "1a 1b 1c 1d",
		"points A,B;":             "1points 1A 3, 1B 3;",
		"azAZ09":                  "1azAZ09",
		"A z":                     "1A 1z",
		"l:=circle(O,P);":         "1l 3:= 1circle 3( 1O 3, 1P 3) 3;",
		"divide(A,B,-1/2)":        "1divide 3( 1A 3, 1B 3, 3- 21 3/ 22 3)",
		" prove same ( A , B )\n": "1prove 1same 3( 1A 3, 1B 3)",
	} {
		expectTexts(t, s, want)
	}
}

// P15.1: each byte by itself, and behind a name and a number.
func TestBytes(t *testing.T) {
	const letters = "ABCDEFGHIJKLMNOPQRSTUVWXYZabcdefghijklmnopqrstuvwxyz"
	for i := range 256 {
		s := string([]byte{byte(i)})
		switch {
		case strings.Contains(letters, s):
			expectTexts(t, s, "1"+s)
			expectTexts(t, "a"+s+"1"+s, "1a"+s+"1"+s)
			expectTexts(t, "1"+s, "21 1"+s)
		case strings.Contains("0123456789", s):
			expectTexts(t, s, "2"+s)
			expectTexts(t, "a"+s, "1a"+s)
			expectTexts(t, "1"+s, "21"+s)
		case strings.Contains("(),;/-", s):
			expectTexts(t, s, "3"+s)
			expectTexts(t, "a"+s+"1"+s, "1a 3"+s+" 21 3"+s)
		case strings.Contains(" \t\r\n", s):
			expectTexts(t, s, "")
			expectTexts(t, "a"+s+"1"+s, "1a 21")
		case s == "#":
			expectTexts(t, "a"+s+"1"+s, "1a")
		default:
			expectError(t, s, 0, api.ErrSyntax)
			expectError(t, "a"+s+"1"+s, 1, api.ErrSyntax)
			expectError(t, "1 "+s, 2, api.ErrSyntax)
		}
		if i != '\n' {
			expectTexts(t, "a#"+s+"b", "1a")
		}
	}
}

// P15.1: errors and their offsets.
func TestErrors(t *testing.T) {
	long := strings.Repeat("a", api.MaxName+1)
	digits := strings.Repeat("1", api.MaxDigits+1)
	for _, x := range []struct {
		s  string
		at int
		e  api.Errno
	}{
		{"a2 : b", 3, api.ErrSyntax},
		{"a := $", 5, api.ErrSyntax},
		{"a: =", 1, api.ErrSyntax},
		{":", 0, api.ErrSyntax},
		{"::=", 0, api.ErrSyntax},
		{":=:", 2, api.ErrSyntax},
		{":#\n=", 0, api.ErrSyntax},
		{"=", 0, api.ErrSyntax},
		{":==", 2, api.ErrSyntax},
		{"a = b", 2, api.ErrSyntax},
		{"07", 0, api.ErrSyntax},
		{"00", 0, api.ErrSyntax},
		{"1 00", 2, api.ErrSyntax},
		{"-01", 1, api.ErrSyntax},
		{"1/02", 2, api.ErrSyntax},
		{"a_b", 1, api.ErrSyntax},
		{"a.b", 1, api.ErrSyntax},
		{"é", 0, api.ErrSyntax},
		{"aé", 1, api.ErrSyntax},
		{"\u0661", 0, api.ErrSyntax},
		{"a\u00a0b", 1, api.ErrSyntax},
		{"a\vb", 1, api.ErrSyntax},
		{"a\fb", 1, api.ErrSyntax},
		{"# c\n $", 5, api.ErrSyntax},
		{long, 0, api.ErrLarge},
		{"  " + long, 2, api.ErrLarge},
		{"1" + long, 1, api.ErrLarge},
		{digits, 0, api.ErrLarge},
		{"a " + digits, 2, api.ErrLarge},
		{"0" + digits, 0, api.ErrSyntax},
		{"$ " + long, 0, api.ErrSyntax},
		{long + " $", 0, api.ErrLarge},
		{digits + "$", 0, api.ErrLarge},
		{long + " 07", 0, api.ErrLarge},
		{"07 " + long, 0, api.ErrSyntax},
		{digits + " 07", 0, api.ErrLarge},
		{"$ 07 :", 0, api.ErrSyntax},
	} {
		expectError(t, x.s, x.at, x.e)
	}
}

// P15.1: the greatest lengths of names and numbers.
func TestLengths(t *testing.T) {
	for _, s := range []string{strings.Repeat("a", api.MaxName), "Z" + strings.Repeat("9", api.MaxName-1)} {
		expectTexts(t, s, "1"+s)
		expectTexts(t, " "+s+"(1", "1"+s+" 3( 21")
		expectError(t, s+"b", 0, api.ErrLarge)
		expectError(t, "a "+s+"0", 2, api.ErrLarge)
	}
	s := strings.Repeat("7", api.MaxDigits)
	expectTexts(t, s, "2"+s)
	expectTexts(t, s+"a", "2"+s+" 1a")
	expectError(t, s+"0", 0, api.ErrLarge)
	expectError(t, "-"+s+"7", 1, api.ErrLarge)
	expectError(t, "0"+s[1:], 0, api.ErrSyntax)
	expectTexts(t, "a#"+s+s+"\nb", "1a 1b")
}

// P15.1: a source of the greatest length, and one of a byte more.
func TestMaxSource(t *testing.T) {
	for _, part := range []string{" ", "#", "(", ";\n", "A:=on(l);\n"} {
		s := strings.Repeat(part, api.MaxSource)[:api.MaxSource]
		l := tokensOf(t, s)
		if last := l[len(l)-1]; last.Pos != api.MaxSource || last.End != api.MaxSource {
			t.Errorf("the end of a source with %q is %v", part, last)
		}
		expectError(t, s+" ", 0, api.ErrLarge)
		expectError(t, s+"$", 0, api.ErrLarge)
		expectError(t, "$"+s, 0, api.ErrLarge)
		expectError(t, s+s, 0, api.ErrLarge)
	}
	expectError(t, strings.Repeat(" ", api.MaxSource-1)+"$", api.MaxSource-1, api.ErrSyntax)
	expectTexts(t, strings.Repeat("#", api.MaxSource-1)+"$", "")
}

// P15.1: random sources against regular expressions.
func TestAllRandom(t *testing.T) {
	r, g, failed := newSource(), newGrammar(), 0
	for range 5 * rounds {
		s := randomSource(r, 30, r.Intn(2) == 0)
		want, at, e := g.all(s)
		if e != api.OK {
			failed++
			expectError(t, s, at, e)
			continue
		}
		expectTokens(t, s, want)
	}
	if failed < rounds/4 || failed > 4*rounds {
		t.Errorf("%d of %d sources have errors", failed, 5*rounds)
	}
}

// P15.1: sources of any bytes.
func TestAllBytes(t *testing.T) {
	r, g := newSource(), newGrammar()
	for range 5 * rounds {
		b := make([]byte, r.Intn(12))
		for i := range b {
			b[i] = byte(r.Intn(256))
			if r.Intn(4) > 0 {
				b[i] = "aZ019 \n#:=();$"[r.Intn(14)]
			}
		}
		want, at, e := g.all(string(b))
		if e != api.OK {
			expectError(t, string(b), at, e)
			continue
		}
		expectTokens(t, string(b), want)
	}
}

// keywords is the list of the chapter.
const keywords = "angle, apex, bisector, center, circle, circum, collinear, common, concyclic, congruent, cross, cut, divide, foot, line, meet, midpoint, mirror, on, other, parallel, perpendicular, points, prove, ratio, reflect, same, shift, turn"

// P15.2
func TestKeywords(t *testing.T) {
	want := strings.Split(keywords, ", ")
	got := lexer.Keywords()
	if !slices.Equal(got, want) || len(got) != 29 || got[0] != "angle" || got[28] != "turn" {
		t.Errorf("the keywords are %q", got)
	}
	if !slices.IsSorted(got) {
		t.Errorf("the keywords %q do not ascend", got)
	}
}

// P15.2: a change of a result changes no later result.
func TestKeywordsAreNew(t *testing.T) {
	got := lexer.Keywords()
	for i := range got {
		got[i] = "X"
	}
	if l := lexer.Keywords(); l[0] != "angle" || lexer.IsName("on") || !lexer.IsName("X") {
		t.Errorf("the keywords are %q", l)
	}
}

// P15.2: keywords are tokens of the kind TkName, but not names.
func TestKeywordsAsNames(t *testing.T) {
	for _, s := range lexer.Keywords() {
		expectTexts(t, s, "1"+s)
		if lexer.IsName(s) {
			t.Errorf("the keyword %s is a name", s)
		}
		for _, near := range []string{s + "s", s + "1", s[1:] + "x", strings.ToUpper(s), strings.ToUpper(s[:1]) + s[1:], "x" + s} {
			if !lexer.IsName(near) {
				t.Errorf("%s is not a name", near)
			}
		}
	}
}

// P15.2
func TestIsName(t *testing.T) {
	most := strings.Repeat("x", api.MaxName)
	for _, s := range []string{"A", "z", "a", "Z", "M1", "lines", "l", "On", "o", "x0", "tk", most, "Q" + strings.Repeat("0", api.MaxName-1), "point", "turns", "end", "ratio2"} {
		if !lexer.IsName(s) {
			t.Errorf("%s is not a name", s)
		}
	}
	for _, s := range []string{"", "1M", "on", "a_b", "0", "1", " a", "a ", "a\n", "a b", "A:=", "#", "a#", "-a", "a-b", "é", "aé", "\xff", "a\x00", "A'", "a.b", "$a", "a$", "@", "[", "`", "{", "a/", "a:", most + "x", most + most, strings.Repeat("x", 1<<20), strings.Repeat("0", api.MaxName)} {
		if lexer.IsName(s) {
			t.Errorf("%s is a name", short(s))
		}
	}
}

// P15.2: names of two bytes.
func TestIsNameBytes(t *testing.T) {
	g := newGrammar()
	for i := range 256 * 256 {
		s := string([]byte{byte(i / 256), byte(i)})
		want := g.name.FindString(s) == s && s != "on"
		if lexer.IsName(s) != want || lexer.IsName(s[:1]) != (g.name.FindString(s[:1]) == s[:1]) {
			t.Fatalf("IsName(%q) is %v", s, !want)
		}
	}
}
