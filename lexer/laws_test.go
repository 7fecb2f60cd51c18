package lexer_test

import (
	"strings"
	"testing"

	"geoprover/api"
	"geoprover/lexer"
)

// moved returns tokens, moved by n.
func moved(l []api.Token, n int) []api.Token {
	var far []api.Token
	for _, k := range l {
		k.Pos, k.End = k.Pos+n, k.End+n
		far = append(far, k)
	}
	return far
}

// P15.3
func TestCoverage(t *testing.T) {
	r, g := newSource(), newGrammar()
	for range rounds {
		s := rightSource(r, 40)
		end := 0
		for i, k := range tokensOf(t, s) {
			if k.Pos < end || k.End < k.Pos || k.Text != s[k.Pos:k.End] || (k.Kind == api.TkEnd) != (k.Pos == len(s)) {
				t.Fatalf("the token %d of %q is %v", i, s, k)
			}
			if gap := s[end:k.Pos]; g.skipped.FindString(gap) != gap {
				t.Fatalf("before the token %d of %q there is %q", i, s, gap)
			}
			end = k.End
		}
		if end != len(s) {
			t.Fatalf("the tokens of %q end at %d", s, end)
		}
	}
}

// P15.4
func TestLines(t *testing.T) {
	r := newSource()
	for i := range rounds {
		a, b := rightSource(r, 15), rightSource(r, 15)
		if i%4 == 0 {
			a += "# a comment"
		}
		first := tokensOf(t, a)
		expectTokens(t, a+"\n"+b, append(first[:len(first)-1], moved(tokensOf(t, b), len(a)+1)...))
	}
}

// P15.4: up to the greatest length.
func TestLongLines(t *testing.T) {
	a, b := strings.Repeat("A1,", api.MaxSource/6), strings.Repeat(";(", api.MaxSource/4-1)
	for len(a)+1+len(b) < api.MaxSource {
		b += "-"
	}
	first := tokensOf(t, a)
	expectTokens(t, a+"\n"+b, append(first[:len(first)-1], moved(tokensOf(t, b), len(a)+1)...))
	expectError(t, a+"\n"+b+"-", 0, api.ErrLarge)
}

// P15.5
func TestBlanks(t *testing.T) {
	r := newSource()
	for range rounds {
		s := rightSource(r, 20)
		l := tokensOf(t, s)
		var wide strings.Builder
		for _, k := range l {
			for range 1 + r.Intn(3) {
				wide.WriteString(pick(r, " ", "\t", "\r", "\n", "#\n", "# 07 $ :\n", "\n#x:=#\n"))
			}
			wide.WriteString(k.Text)
		}
		if got := show(tokensOf(t, wide.String())); got != show(l) {
			t.Fatalf("the tokens of %q are %q, those of %q are %q", s, show(l), wide.String(), got)
		}
	}
}

// P15.6
func TestPrefixes(t *testing.T) {
	r, count := newSource(), 0
	for range 3 * rounds {
		s := randomSource(r, 30, true)
		_, at, e := lexer.All(s)
		if e == api.OK || at == 0 {
			continue
		}
		count++
		l := tokensOf(t, s[:at])
		if last := l[len(l)-1]; last.Pos != at {
			t.Fatalf("the end of %q is at %d", s[:at], last.Pos)
		}
	}
	if count < rounds {
		t.Errorf("only %d sources have an error behind their begin", count)
	}
}
