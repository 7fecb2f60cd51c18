package ast_test

import (
	"math"
	"slices"
	"strings"
	"testing"

	"geoprover/api"
	"geoprover/ast"
	"geoprover/rational"
)

// P16.2: the examples of the chapter.
func TestCheckExamples(t *testing.T) {
	expectCheck(t, tree(api.ExMidpoint, names("A B")...), api.SortPoint, api.OK)
	expectCheck(t, tree(api.ExMidpoint, names("A B")...), api.SortLine, api.ErrKind)
	expectCheck(t, tree(api.ExMidpoint, names("A B C")...), api.SortPoint, api.ErrArg)
	expectCheck(t, tree(api.ExFoot, name("A"), tree(api.ExLine, names("B A")...)), api.SortPoint, api.OK)
	expectCheck(t, tree(api.ExDivide, names("A B")...), api.SortPoint, api.ErrArg)
	expectCheck(t, api.Expr{Kind: api.ExMidpoint, Args: names("A B"), Ratio: number("1/2")}, api.SortPoint, api.ErrArg)
	expectCheck(t, tree(api.ExOn, tree(api.ExCircle, names("A B")...)), api.SortPoint, api.OK)
	expectCheck(t, tree(api.ExOn, tree(api.ExMidpoint, names("A B")...)), api.SortPoint, api.ErrKind)
	expectCheck(t, tree(api.ExOn, name("c")), api.SortPoint, api.OK)
	expectCheck(t, name("foot"), api.SortPoint, api.ErrName)
}

// rightTrees returns a right expression of each kind.
func rightTrees() []api.Expr {
	l := []api.Expr{name("A")}
	for _, x := range table() {
		e := tree(x.kind, names("A B C D E F")[:len(x.params)]...)
		if x.word == "divide" || x.word == "ratio" {
			e.Ratio = number("-3/7")
		}
		l = append(l, e)
	}
	return l
}

// P16.2: each kind as each sort.
func TestCheckSorts(t *testing.T) {
	for _, e := range rightTrees() {
		for sort := api.SortPoint; sort <= api.SortGoal; sort++ {
			want := api.ErrKind
			if isOfSort(e.Kind, sort) {
				want = api.OK
			}
			expectCheck(t, e, sort, want)
		}
		for _, sort := range []int{api.SortNone, -1, api.SortGoal + 1, 10, math.MinInt, math.MaxInt} {
			expectCheck(t, e, sort, api.ErrArg)
		}
	}
	for _, kind := range []int{0, -1, 2, 9, 25, 39, 44, 49, 52, 59, 69, math.MinInt, math.MaxInt} {
		for sort := api.SortPoint; sort <= api.SortGoal; sort++ {
			expectCheck(t, tree(kind), sort, api.ErrKind)
			expectCheck(t, tree(kind, names("A B")...), sort, api.ErrKind)
			expectCheck(t, api.Expr{Kind: kind, Name: "A"}, sort, api.ErrKind)
		}
	}
}

// P16.2: each kind as an argument for each parameter.
func TestCheckArguments(t *testing.T) {
	for _, outer := range rightTrees()[1:] {
		sort := rowOf(outer.Kind).sort
		for i, param := range rowOf(outer.Kind).params {
			for _, inner := range rightTrees() {
				e := clone(outer)
				e.Args[i] = inner
				want := errorOf(part{inner, byte(param)})
				expectCheck(t, e, sort, want)
				if inner.Kind == api.ExName && want != api.OK {
					t.Errorf("the argument %d of %s is not a name", i, show(e))
				}
			}
		}
	}
	on := func(e api.Expr) api.Expr { return tree(api.ExOn, e) }
	expectCheck(t, on(tree(api.ExLine, names("A B")...)), api.SortPoint, api.OK)
	expectCheck(t, on(tree(api.ExCircum, names("A B C")...)), api.SortPoint, api.OK)
	expectCheck(t, on(on(name("c"))), api.SortPoint, api.ErrKind)
	expectCheck(t, on(tree(api.ExIsSame, names("A B")...)), api.SortPoint, api.ErrKind)
	expectCheck(t, on(tree(0)), api.SortPoint, api.ErrKind)
	expectCheck(t, on(name("on")), api.SortPoint, api.ErrName)
}

// P16.2: names.
func TestCheckNames(t *testing.T) {
	for sort := api.SortPoint; sort <= api.SortCircle; sort++ {
		for _, s := range []string{"A", "M1", "lines", "l", strings.Repeat("x", api.MaxName)} {
			expectCheck(t, name(s), sort, api.OK)
			expectCheck(t, name(s), api.SortGoal, api.ErrKind)
		}
		for _, s := range []string{"", "1M", "on", "line", "a_b", "é", " A", strings.Repeat("x", api.MaxName+1)} {
			expectCheck(t, name(s), sort, api.ErrName)
			expectCheck(t, name(s), api.SortGoal, api.ErrKind)
		}
	}
	for _, e := range rightTrees()[1:] {
		for _, s := range []string{"A", "on", "_", " "} {
			e.Name = s
			expectCheck(t, e, rowOf(e.Kind).sort, api.ErrArg)
		}
	}
}

// P16.2: numbers of arguments.
func TestCheckNumbersOfArguments(t *testing.T) {
	for _, e := range rightTrees() {
		sort := max(api.SortPoint, rowOf(e.Kind).sort)
		for n := range 10 {
			x := e
			x.Args = names("A B C D E F G H I J")[:n]
			want := api.ErrArg
			if n == len(e.Args) {
				want = api.OK
			}
			expectCheck(t, x, sort, want)
		}
	}
}

// wrongRatios returns numbers that are not valid, but are not the zero value of api.Rat.
func wrongRatios() []api.Rat {
	one := api.Nat{1}
	return []api.Rat{
		{Num: api.Int{Abs: one}},
		{Num: api.Int{Neg: true}, Den: one},
		{Num: api.Int{Neg: true}},
		{Num: api.Int{Abs: api.Nat{2}}, Den: api.Nat{4}},
		{Num: api.Int{Abs: one}, Den: api.Nat{3, 0}},
		{Num: api.Int{Abs: api.Nat{1, 0}}, Den: one},
		{Num: api.Int{Abs: api.Nat{0}}, Den: one},
		{Den: api.Nat{2}},
		{Den: api.Nat{0}},
		{Num: api.Int{Abs: api.Nat{0}}},
	}
}

// P16.2: the Ratio of each kind.
func TestCheckRatios(t *testing.T) {
	for _, e := range rightTrees() {
		sort := max(api.SortPoint, rowOf(e.Kind).sort)
		has := e.Kind == api.ExDivide || e.Kind == api.ExIsRatio
		for _, r := range []api.Rat{number("0"), number("1"), number("-1"), number("2/3"), number("-12345678901234567890/7")} {
			want := api.ErrArg
			if has {
				want = api.OK
			}
			e.Ratio = r
			expectCheck(t, e, sort, want)
		}
		for _, r := range wrongRatios() {
			if rational.Right(r) {
				t.Fatalf("%v is valid", r)
			}
			e.Ratio = r
			expectCheck(t, e, sort, api.ErrArg)
		}
		for _, r := range []api.Rat{{}, {Num: api.Int{Abs: api.Nat{}}, Den: api.Nat{}}} {
			want := api.OK
			if has {
				want = api.ErrArg
			}
			e.Ratio = r
			expectCheck(t, e, sort, want)
		}
	}
}

// P16.2: the order of the errors in one expression.
func TestCheckOrder(t *testing.T) {
	bad := api.Expr{Kind: api.ExMidpoint, Name: "A", Args: names("A"), Ratio: number("1")}
	deep := tower(api.MaxDepth+1, true)
	deep.Kind = 0
	for _, x := range []struct {
		e    api.Expr
		sort int
		want api.Errno
	}{
		{deep, api.SortNone, api.ErrArg},
		{deep, 5, api.ErrArg},
		{deep, api.SortPoint, api.ErrLarge},
		{tower(api.MaxDepth+1, true), api.SortLine, api.ErrLarge},
		{bad, api.SortLine, api.ErrKind},
		{bad, api.SortPoint, api.ErrArg},
		{bad, api.SortNone, api.ErrArg},
		{api.Expr{Kind: api.ExName, Name: "1", Args: names("A"), Ratio: number("1")}, api.SortGoal, api.ErrKind},
		{api.Expr{Kind: api.ExName, Name: "1", Args: names("A"), Ratio: number("1")}, api.SortPoint, api.ErrName},
		{api.Expr{Kind: api.ExName, Name: "M", Args: names("A"), Ratio: number("1")}, api.SortPoint, api.ErrArg},
		{api.Expr{Kind: api.ExName, Name: "M", Args: names("1")}, api.SortPoint, api.ErrArg},
		{api.Expr{Kind: api.ExName, Name: "M", Ratio: number("1")}, api.SortPoint, api.ErrArg},
		{tree(api.ExMidpoint, name("1"), name("A"), name("B")), api.SortPoint, api.ErrArg},
		{tree(api.ExMidpoint, tree(0)), api.SortPoint, api.ErrArg},
		{divideZero(name("1")), api.SortPoint, api.ErrArg},
	} {
		expectCheck(t, x.e, x.sort, x.want)
	}
}

// divideZero returns an ExDivide of a and a point without a valid Ratio.
func divideZero(a api.Expr) api.Expr { return tree(api.ExDivide, a, name("B")) }

// P16.2: the first expression with an error decides, from left to right, an argument before those behind it.
func TestCheckFirst(t *testing.T) {
	wrongName, wrongKind, wrongCount := name("1"), tree(api.ExLine, names("A B")...), tree(api.ExApex, name("A"))
	hidden := func(e api.Expr) api.Expr { return tree(api.ExMidpoint, name("A"), tree(api.ExTurn, name("B"), e)) }
	m := func(a, b api.Expr) api.Expr { return tree(api.ExMidpoint, a, b) }
	for _, x := range []struct {
		e    api.Expr
		want api.Errno
	}{
		{m(wrongName, wrongKind), api.ErrName},
		{m(wrongKind, wrongName), api.ErrKind},
		{m(wrongCount, wrongKind), api.ErrArg},
		{m(wrongKind, wrongCount), api.ErrKind},
		{m(hidden(wrongName), wrongKind), api.ErrName},
		{m(hidden(wrongCount), wrongName), api.ErrArg},
		{m(hidden(wrongKind), wrongCount), api.ErrKind},
		{m(name("A"), hidden(wrongName)), api.ErrName},
		{m(divideZero(wrongName), wrongKind), api.ErrArg},
		{m(name("A"), m(wrongCount, wrongName)), api.ErrArg},
		{tree(api.ExIsAngle, names("A B C D on 1")...), api.ErrName},
		{tree(api.ExIsAngle, append(names("A B C D E"), wrongKind)...), api.ErrKind},
	} {
		expectCheck(t, x.e, max(1, rowOf(x.e.Kind).sort), x.want)
	}
}

// P16.2: the greatest depth and one more, wherever the deepest arguments stand.
func TestCheckDepth(t *testing.T) {
	for _, left := range []bool{true, false} {
		for depth := 1; depth <= api.MaxDepth; depth++ {
			expectCheck(t, tower(depth, left), api.SortPoint, api.OK)
		}
		for _, depth := range []int{api.MaxDepth + 1, api.MaxDepth + 2, 5000} {
			expectCheck(t, tower(depth, left), api.SortPoint, api.ErrLarge)
		}
	}
	goal := func(depth int) api.Expr { return tree(api.ExIsSame, name("A"), tower(depth, true)) }
	expectCheck(t, goal(api.MaxDepth-1), api.SortGoal, api.OK)
	expectCheck(t, goal(api.MaxDepth), api.SortGoal, api.ErrLarge)
	wrong := tree(0, tree(77, name("on")), tower(api.MaxDepth, false)) // the depth counts arguments of all expressions
	expectCheck(t, wrong, api.SortPoint, api.ErrLarge)
	wrong.Args[1] = tower(api.MaxDepth-1, false)
	expectCheck(t, wrong, api.SortPoint, api.ErrKind)
	expectCheck(t, api.Expr{Kind: api.ExName, Name: "A", Args: []api.Expr{tower(api.MaxDepth, true)}}, api.SortPoint, api.ErrLarge)
}

// P16.2: a tree whose arguments share memory is examined without visiting all of it, if it is too deep.
func TestCheckShared(t *testing.T) {
	e := name("A")
	for range 60 {
		e = tree(api.ExMidpoint, e, e)
	}
	expectCheck(t, e, api.SortPoint, api.ErrLarge)
}

// P16.2: positions are not examined.
func TestCheckPositions(t *testing.T) {
	for _, e := range rightTrees() {
		for _, pos := range []int{-1, 7, math.MinInt, math.MaxInt} {
			x := clone(e)
			for _, n := range nodes(&x) {
				n.Pos = pos
			}
			expectCheck(t, x, max(1, rowOf(e.Kind).sort), api.OK)
		}
	}
}

// P16.2: random expressions, right ones and others, against the definition.
func TestCheckRandom(t *testing.T) {
	r := newSource()
	counts := map[api.Errno]int{}
	for range 10 * rounds {
		sort := 1 + r.Intn(4)
		e := randomTree(r, "PLCG"[sort-1], 2+r.Intn(4))
		expectCheck(t, e, sort, api.OK)
		for range 1 + r.Intn(3) {
			e = damage(r, e)
		}
		want := check(e, sort)
		counts[want]++
		expectCheck(t, e, sort, want)
	}
	for _, errno := range []api.Errno{api.OK, api.ErrArg, api.ErrName, api.ErrKind} {
		if counts[errno] < rounds/2 {
			t.Errorf("only %d cases have the error %d", counts[errno], errno)
		}
	}
}

// P16.6
func TestNesting(t *testing.T) {
	r := newSource()
	for range rounds {
		e := randomTree(r, 'P', 1+r.Intn(5))
		if r.Intn(3) == 0 {
			e = tower(1+r.Intn(api.MaxDepth), true)
		}
		m := tree(api.ExMidpoint, e, e)
		want := api.OK
		if ast.Depth(e) == api.MaxDepth {
			want = api.ErrLarge
		}
		expectCheck(t, m, api.SortPoint, want)
		if ast.Depth(m) != ast.Depth(e)+1 || !slices.Equal(ast.Names(m), ast.Names(e)) {
			t.Errorf("the midpoint of %s twice has the depth %d and the names %q", show(e), ast.Depth(m), ast.Names(m))
		}
	}
}
