package ast_test

import (
	"math"
	"slices"
	"testing"

	"geoprover/api"
	"geoprover/ast"
)

// P16.1: the table of the chapter; rowOf is zero for ExName and for numbers that are no kinds.
func TestKinds(t *testing.T) {
	if n := len(table()); n != 30 {
		t.Fatalf("there are %d kinds", n)
	}
	kinds := []int{math.MinInt, math.MaxInt, 256 + api.ExMidpoint, 1<<32 + api.ExIsSame}
	for kind := -100; kind < 300; kind++ {
		kinds = append(kinds, kind)
	}
	for _, kind := range kinds {
		want := rowOf(kind)
		if got := ast.Sort(kind); got != want.sort {
			t.Errorf("Sort(%d) is %d, want %d", kind, got, want.sort)
		}
		if got := ast.Word(kind); got != want.word {
			t.Errorf("Word(%d) is %q, want %q", kind, got, want.word)
		}
		if got := ast.Params(kind); !slices.Equal(got, sorts(want.params)) {
			t.Errorf("Params(%d) is %v, want %v", kind, got, sorts(want.params))
		}
	}
}

// P16.1: the examples of the chapter.
func TestKindExamples(t *testing.T) {
	if ast.Sort(api.ExCut) != api.SortPoint || !slices.Equal(ast.Params(api.ExCut), []int{api.SortLine, api.SortCircle}) {
		t.Errorf("cut has the sort %d and the parameters %v", ast.Sort(api.ExCut), ast.Params(api.ExCut))
	}
	if ast.Sort(api.ExOn) != api.SortPoint || !slices.Equal(ast.Params(api.ExOn), []int{api.SortNone}) {
		t.Errorf("on has the sort %d and the parameters %v", ast.Sort(api.ExOn), ast.Params(api.ExOn))
	}
	if ast.Sort(api.ExName) != api.SortNone || len(ast.Params(api.ExName)) > 0 || ast.Word(api.ExName) != "" {
		t.Error("a name has a sort, parameters or a word")
	}
	for word, want := range map[string]int{"midpoint": api.ExMidpoint, "parallel": api.ExParallel, "perpendicular": api.ExPerpendicular} {
		if got := ast.Kind(word); got != want {
			t.Errorf("Kind(%s) is %d", word, got)
		}
	}
}

// P16.1: the least kind of each word.
func TestKind(t *testing.T) {
	for _, x := range table() {
		want := x.kind
		for _, y := range table() {
			if y.word == x.word {
				want = min(want, y.kind)
			}
		}
		if got := ast.Kind(x.word); got != want {
			t.Errorf("Kind(%s) is %d, want %d", x.word, got, want)
		}
	}
	for _, word := range []string{"", " ", "point", "points", "prove", "name", "Midpoint", "midpoint ", "mid", "midpoints", "on(", "\x00", "A"} {
		if got := ast.Kind(word); got != 0 {
			t.Errorf("Kind(%q) is %d", word, got)
		}
	}
}

// P16.1: a change of a result changes no later result.
func TestParamsAreNew(t *testing.T) {
	for _, x := range table() {
		l := ast.Params(x.kind)
		for i := range l {
			l[i] = 99
		}
		if got := ast.Params(x.kind); !slices.Equal(got, sorts(x.params)) {
			t.Errorf("Params(%d) is %v", x.kind, got)
		}
	}
}

// P16.5
func TestWords(t *testing.T) {
	met := map[string][]int{}
	for kind := range 100 {
		word := ast.Word(kind)
		if word == "" {
			continue
		}
		if k := ast.Kind(word); k > kind || ast.Word(k) != word {
			t.Errorf("the word %s of the kind %d has the kind %d", word, kind, k)
		}
		if slices.Contains(met[word], ast.Sort(kind)) {
			t.Errorf("two kinds of the sort %d have the word %s", ast.Sort(kind), word)
		}
		met[word] = append(met[word], ast.Sort(kind))
	}
	if len(met) != 27 {
		t.Errorf("there are %d words", len(met))
	}
}
