package ast_test

import (
	"math/rand"
	"slices"
	"strings"
	"testing"

	"geoprover/api"
	"geoprover/ast"
)

// program returns the program of these statements.
func program(stmts ...api.Stmt) api.Program { return api.Program{Stmts: stmts} }

// expectEqual fails unless Equal, EqualExpr and their symmetric calls report whether the expressions are equal.
func expectEqual(t *testing.T, a, b api.Expr, want bool) {
	t.Helper()
	if ast.EqualExpr(a, b) != want || ast.EqualExpr(b, a) != want {
		t.Errorf("EqualExpr of %v and %v is not %v", a, b, want)
	}
	for _, kind := range []int{api.StPoint, api.StPoints, api.StProve, 0} {
		p, q := program(points("A"), define(kind, "X", a)), program(points("A"), define(kind, "X", b))
		if ast.Equal(p, q) != want || ast.Equal(q, p) != want {
			t.Errorf("Equal of %v and %v is not %v", p, q, want)
		}
	}
}

// P16.4: what is compared, and what is not.
func TestEqualExpr(t *testing.T) {
	m := tree(api.ExMidpoint, names("A B")...)
	for _, x := range []struct {
		a, b api.Expr
		want bool
	}{
		{m, m, true},
		{api.Expr{}, api.Expr{Pos: 7}, true},
		{api.Expr{}, api.Expr{Args: []api.Expr{}, Ratio: api.Rat{Den: api.Nat{}, Num: api.Int{Abs: api.Nat{}}}}, true},
		{name("A"), api.Expr{Kind: api.ExName, Name: "A", Pos: 5}, true},
		{name("A"), name("B"), false},
		{name("A"), name("a"), false},
		{name("A"), name("A "), false},
		{name(""), api.Expr{}, false},
		{m, tree(api.ExApex, names("A B")...), false},
		{m, tree(api.ExMidpoint, names("B A")...), false},
		{m, tree(api.ExMidpoint, names("A")...), false},
		{m, tree(api.ExMidpoint, names("A B B")...), false},
		{m, tree(api.ExMidpoint), false},
		{m, api.Expr{Kind: api.ExMidpoint, Name: "x", Args: names("A B")}, false},
		{m, api.Expr{Kind: api.ExMidpoint, Args: names("A B"), Ratio: number("0")}, false},
		{m, api.Expr{Kind: api.ExMidpoint, Args: names("A B"), Ratio: api.Rat{Num: api.Int{Neg: true}}}, false},
		{tree(api.ExIsMidpoint), tree(api.ExMidpoint), false},
		{tree(api.ExOn, m), tree(api.ExOn, clone(m)), true},
		{tree(api.ExOn, m), tree(api.ExOn, tree(api.ExMidpoint, names("A C")...)), false},
	} {
		expectEqual(t, x.a, x.b, x.want)
	}
}

// P16.4: numbers are equal if their representations are.
func TestEqualRatios(t *testing.T) {
	numbers := append(wrongRatios(), number("0"), number("1"), number("-1"), number("1/2"), number("65537/65536"))
	for i, a := range append(numbers, api.Rat{}) {
		for k, b := range append(numbers, api.Rat{}) {
			expectEqual(t, api.Expr{Kind: api.ExDivide, Ratio: a}, api.Expr{Kind: api.ExDivide, Ratio: b}, i == k)
		}
	}
}

// P16.4: statements.
func TestEqual(t *testing.T) {
	base := sample()
	for _, x := range []struct {
		a, b []api.Stmt
		want bool
	}{
		{nil, []api.Stmt{}, true},
		{base, sample(), true},
		{base, base[:4], false},
		{base, nil, false},
		{base[1:], base[:4], false},
		{[]api.Stmt{base[0], base[1]}, []api.Stmt{base[1], base[0]}, false},
		{[]api.Stmt{{}}, nil, false},
		{[]api.Stmt{{}}, []api.Stmt{{Pos: 9, Names: []string{}, Expr: api.Expr{Pos: -3}}}, true},
		{[]api.Stmt{points("A B")}, []api.Stmt{points("B A")}, false},
		{[]api.Stmt{points("A B")}, []api.Stmt{points("A")}, false},
		{[]api.Stmt{points("A B")}, []api.Stmt{points("A"), points("B")}, false},
		{[]api.Stmt{points("A")}, []api.Stmt{{Kind: api.StProve, Names: []string{"A"}}}, false},
		{[]api.Stmt{{Names: []string{""}}}, []api.Stmt{{}}, false},
	} {
		if ast.Equal(program(x.a...), program(x.b...)) != x.want || ast.Equal(program(x.b...), program(x.a...)) != x.want {
			t.Errorf("Equal of %v and %v is not %v", x.a, x.b, x.want)
		}
	}
}

// scatter returns a copy of e with other positions.
func scatter(r *rand.Rand, e api.Expr) api.Expr {
	c := clone(e)
	for _, x := range nodes(&c) {
		x.Pos = r.Intn(1000) - 10
	}
	return c
}

// P16.4: random trees, against a comparison of texts that show all but the positions.
func TestEqualRandom(t *testing.T) {
	r, count := newSource(), 0
	for range 2 * rounds {
		a := randomTree(r, "PLCG"[r.Intn(4)], 4)
		expectEqual(t, a, scatter(r, a), true)
		b := scatter(r, damage(r, a))
		x, y := a, b
		for _, e := range []*api.Expr{&x, &y} {
			*e = clone(*e)
			for _, n := range nodes(e) {
				n.Pos = 0
			}
		}
		want := dump(x) == dump(y)
		if want {
			count++
		}
		expectEqual(t, a, b, want)
	}
	if count == 0 || count > rounds {
		t.Errorf("%d trees are equal", count)
	}
}

// dump returns all of e as text, apart from its positions.
func dump(e api.Expr) string {
	ratio := ""
	for _, n := range []api.Nat{e.Ratio.Num.Abs, e.Ratio.Den} {
		for _, limb := range n {
			ratio += " " + string(rune(limb+'0'))
		}
		ratio += ";"
	}
	if e.Ratio.Num.Neg {
		ratio = "-" + ratio
	}
	s := string(rune(e.Kind+1000)) + e.Name + "[" + ratio
	for _, a := range e.Args {
		s += dump(a)
	}
	return s + "]"
}

// expectTree fails unless e has these names, which stand between spaces, this depth, and this number of expressions.
func expectTree(t *testing.T, e api.Expr, want string, depth, size int) {
	t.Helper()
	if got := ast.Names(e); !slices.Equal(got, strings.Fields(want)) {
		t.Errorf("the names of %s are %q, want %s", show(e), got, want)
	}
	if got := ast.Depth(e); got != depth {
		t.Errorf("the depth of %s is %d, want %d", show(e), got, depth)
	}
	if got := ast.Size(program(prove(e))); got != 1+size {
		t.Errorf("the size of a statement with %s is %d, want %d", show(e), got, 1+size)
	}
}

// P16.4: names, depths and sizes.
func TestNamesDepthSize(t *testing.T) {
	expectTree(t, tree(api.ExFoot, name("A"), tree(api.ExLine, names("B A")...)), "A B", 3, 5)
	expectTree(t, tree(api.ExIsSame, names("A B")...), "A B", 2, 3)
	expectTree(t, name("A"), "A", 1, 1)
	expectTree(t, tree(api.ExMidpoint), "", 1, 1)
	expectTree(t, api.Expr{}, "", 1, 1)
	expectTree(t, tree(api.ExIsAngle, names("C A C B A C")...), "C A B", 2, 7)
	expectTree(t, tree(api.ExMeet, tree(api.ExLine, names("D C")...), tree(api.ExLine, names("B D")...)), "D C B", 3, 7)
	expectTree(t, tree(api.ExMeet, tree(api.ExParallel, name("P"), tree(api.ExBisector, names("Q P")...)), name("l")), "P Q l", 4, 7)
	expectTree(t, tree(api.ExMeet, name("l"), tree(api.ExParallel, name("P"), tree(api.ExBisector, names("Q P")...))), "l P Q", 4, 7)
	expectTree(t, divide(name("B"), name("A"), "1/2"), "B A", 2, 3)
	expectTree(t, tower(20, true), "B A", 20, 39)
	expectTree(t, tower(20, false), "A B", 20, 39)
}

// P16.4: trees that are not right.
func TestNamesDepthSizeWrong(t *testing.T) {
	expectTree(t, api.Expr{Kind: api.ExMidpoint, Name: "X", Args: names("A on")}, "A on", 2, 3)
	expectTree(t, api.Expr{Name: "X"}, "", 1, 1)
	expectTree(t, api.Expr{Kind: api.ExName, Name: "X", Args: names("1 X Y")}, "X 1 Y", 2, 4)
	expectTree(t, tree(77, names("A B C D E F G H A")...), "A B C D E F G H", 2, 10)
	expectTree(t, tree(-1, tree(api.ExOn), tree(api.ExOn, tree(0))), "", 3, 4)
	if got := ast.Names(tree(0, name("B"), name(""), name("A"), name(""))); !slices.Equal(got, []string{"B", "", "A"}) {
		t.Errorf("the names with an empty one are %q", got)
	}
	if got := ast.Names(name("A B")); !slices.Equal(got, []string{"A B"}) {
		t.Errorf("a name with a blank yields %q", got)
	}
}

// P16.4: sizes of programs.
func TestSize(t *testing.T) {
	for _, x := range []struct {
		p    api.Program
		want int
	}{
		{program(), 0},
		{program(points("A B")), 1},
		{program(points("")), 1},
		{program(prove(tree(api.ExIsSame, names("A B")...))), 4},
		{program(sample()...), 1 + 4 + 4 + 5 + 4},
		{program(api.Stmt{}), 2},
		{program(api.Stmt{Kind: api.StPoints, Expr: tower(5, true)}), 1},
		{program(api.Stmt{Kind: 6, Expr: tower(5, true)}), 10},
		{program(points("A"), points("A"), define(api.StPoint, "B", name("A"))), 4},
	} {
		if got := ast.Size(x.p); got != x.want {
			t.Errorf("the size of %v is %d, want %d", x.p, got, x.want)
		}
	}
}

// P16.4: random trees, with expressions that are not right, against a list of all expressions.
func TestNamesDepthSizeRandom(t *testing.T) {
	r := newSource()
	for range 2 * rounds {
		e := randomTree(r, "PLCG"[r.Intn(4)], 1+r.Intn(6))
		for range r.Intn(3) {
			e = damage(r, e)
		}
		var want []string
		for _, x := range nodes(&e) {
			if x.Kind == api.ExName && !slices.Contains(want, x.Name) {
				want = append(want, x.Name)
			}
		}
		if got := ast.Names(e); !slices.Equal(got, want) {
			t.Fatalf("the names of %s are %q, want %q", show(e), got, want)
		}
		if got := ast.Depth(e); got != depth(e) {
			t.Fatalf("the depth of %s is %d, want %d", show(e), got, depth(e))
		}
		s, k := prove(e), points("A")
		k.Expr = e
		if got := ast.Size(program(k, s, k, s)); got != 4+2*len(nodes(&e)) {
			t.Fatalf("the size of twice %s is %d", show(e), got)
		}
	}
}

// P16.2, P16.4: trees with as many levels as the document permits, and with very many arguments.
func TestLargeTrees(t *testing.T) {
	const levels = 1 << 16
	e := tower(levels, true)
	if got := ast.Depth(e); got != levels {
		t.Errorf("the depth is %d", got)
	}
	if got := ast.Names(e); !slices.Equal(got, []string{"B", "A"}) {
		t.Errorf("the names are %q", got)
	}
	if got := ast.Size(program(prove(e))); got != 2*levels {
		t.Errorf("the size is %d", got)
	}
	if !ast.EqualExpr(e, tower(levels, true)) || ast.EqualExpr(e, tower(levels, false)) {
		t.Error("EqualExpr compares deep trees wrongly")
	}
	expectCheck(t, e, api.SortPoint, api.ErrLarge)
	wide := tree(api.ExMidpoint, slices.Repeat(names("A B C"), levels)...)
	expectCheck(t, wide, api.SortPoint, api.ErrArg)
	if got := ast.Names(wide); len(got) != 3 || ast.Depth(wide) != 2 || ast.Size(program(prove(wide))) != 2+3*levels {
		t.Errorf("a wide tree has the names %q", got)
	}
}
