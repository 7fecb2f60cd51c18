package ast_test

import (
	"math"
	"math/rand"
	"strings"
	"testing"

	"geoprover/api"
	"geoprover/ast"
)

// points returns a StPoints with the names in s, which stand between spaces.
func points(s string) api.Stmt { return api.Stmt{Kind: api.StPoints, Names: strings.Fields(s)} }

// define returns a statement of this kind that defines a name.
func define(kind int, name string, e api.Expr) api.Stmt {
	return api.Stmt{Kind: kind, Names: []string{name}, Expr: e}
}

// prove returns a StProve.
func prove(e api.Expr) api.Stmt { return api.Stmt{Kind: api.StProve, Expr: e} }

// sample returns a right statement of each kind.
func sample() []api.Stmt {
	return []api.Stmt{
		points("A B C"),
		define(api.StPoint, "M", tree(api.ExMidpoint, names("A B")...)),
		define(api.StLine, "l", tree(api.ExBisector, names("A B")...)),
		define(api.StCircle, "c", tree(api.ExCircum, names("A B C")...)),
		prove(tree(api.ExIsSame, names("A B")...)),
	}
}

// stmtSort returns the sort of the Expr of a kind of statements.
func stmtSort(kind int) int {
	return map[int]int{api.StPoint: api.SortPoint, api.StLine: api.SortLine, api.StCircle: api.SortCircle, api.StProve: api.SortGoal}[kind]
}

// P16.3: right programs.
func TestCheckProgram(t *testing.T) {
	expectProgram(t, 0, api.OK)
	expectProgram(t, 0, api.OK, sample()...)
	for _, s := range sample() {
		expectProgram(t, 0, api.OK, s)
	}
	expectProgram(t, 0, api.OK, points("A"), points("A A"), points("A")) // which names are defined is not examined
	expectProgram(t, 0, api.OK, prove(tree(api.ExIsSame, names("X Y")...)))
}

// P16.3: the first statement with an error decides.
func TestCheckProgramFirst(t *testing.T) {
	wrong := []struct {
		s api.Stmt
		e api.Errno
	}{
		{api.Stmt{}, api.ErrKind},
		{points(""), api.ErrArg},
		{points("A on"), api.ErrName},
		{prove(tree(api.ExIsSame)), api.ErrArg},
		{prove(tower(api.MaxDepth+1, true)), api.ErrLarge},
	}
	for _, x := range wrong {
		for at := range 6 {
			var stmts []api.Stmt
			for range at {
				stmts = append(stmts, sample()[at%5])
			}
			expectProgram(t, at, x.e, append(stmts, x.s)...)
			for _, y := range wrong {
				expectProgram(t, at, x.e, append(stmts, x.s, y.s)...)
			}
		}
	}
}

// P16.3: there are five kinds of statements, and the kind is examined first.
func TestCheckProgramKinds(t *testing.T) {
	for _, kind := range []int{0, -1, 6, 10, math.MinInt, math.MaxInt} {
		for _, s := range append(sample(), points(""), points("on"), define(0, "1", tree(0))) {
			s.Kind = kind
			expectProgram(t, 0, api.ErrKind, s)
		}
	}
}

// P16.3: numbers of names, which are examined before the names.
func TestCheckProgramNumbersOfNames(t *testing.T) {
	for _, s := range sample() {
		for n := range 5 {
			right := n == 1
			switch s.Kind {
			case api.StPoints:
				right = n > 0
			case api.StProve:
				right = n == 0
			}
			want := api.ErrArg
			if right {
				want = api.OK
			}
			x := s
			x.Names = strings.Fields("A B C D")[:n]
			expectProgram(t, 0, want, x)
			if !right {
				x.Names = strings.Fields("1 on A_ 2")[:n]
				expectProgram(t, 0, api.ErrArg, x)
				x.Expr = tree(0)
				expectProgram(t, 0, api.ErrArg, x)
			}
		}
	}
	var many []string
	for range 3000 {
		many = append(many, "A")
	}
	expectProgram(t, 0, api.OK, api.Stmt{Kind: api.StPoints, Names: many})
}

// P16.3: names, which are examined before the Expr.
func TestCheckProgramNames(t *testing.T) {
	for _, s := range sample()[:4] {
		for _, wrong := range []string{"", "on", "1M", "a_b", "points", strings.Repeat("x", api.MaxName+1)} {
			s.Names = []string{wrong}
			expectProgram(t, 0, api.ErrName, s)
			x := s
			x.Expr = name("A")
			expectProgram(t, 0, api.ErrName, x)
			x.Expr = tree(0, name("A"))
			expectProgram(t, 0, api.ErrName, x)
		}
		s.Names = []string{strings.Repeat("x", api.MaxName)}
		expectProgram(t, 0, api.OK, s)
	}
	expectProgram(t, 0, api.ErrName, points("A B 1 C"))
	expectProgram(t, 0, api.ErrName, points("A B C line"))
}

// P16.3: the Expr of a StPoints is zero, apart from Pos.
func TestCheckProgramPoints(t *testing.T) {
	for _, e := range []api.Expr{
		name("A"),
		{Kind: api.ExName},
		{Kind: -1},
		{Name: "A"},
		{Ratio: number("0")},
		{Ratio: api.Rat{Num: api.Int{Neg: true}}},
		{Ratio: api.Rat{Den: api.Nat{0}}},
		{Args: make([]api.Expr, 1)},
		tree(api.ExMidpoint, names("A B")...),
		tower(api.MaxDepth+1, true),
	} {
		s := points("A B")
		s.Expr = e
		expectProgram(t, 0, api.ErrArg, s)
	}
	for _, e := range []api.Expr{{Pos: 3}, {Pos: -1}, {Args: []api.Expr{}}, {Ratio: api.Rat{Num: api.Int{Abs: api.Nat{}}, Den: api.Nat{}}}} {
		s := points("A B")
		s.Expr, s.Pos = e, math.MinInt
		expectProgram(t, 0, api.OK, s)
	}
}

// P16.3: the Expr of the other statements.
func TestCheckProgramExpr(t *testing.T) {
	expectProgram(t, 0, api.ErrKind, prove(tree(api.ExLine, names("A B")...)))
	deepName := api.Expr{Kind: api.ExName, Name: "1", Args: []api.Expr{tower(api.MaxDepth, true)}}
	for _, s := range sample()[1:] {
		for _, e := range []api.Expr{name("A"), name("on"), name(""), {Kind: api.ExName, Args: names("A")}, deepName, {}} {
			s.Expr = e
			expectProgram(t, 0, api.ErrKind, s)
		}
		for _, e := range rightTrees()[1:] {
			s.Expr = e
			want := api.ErrKind
			if rowOf(e.Kind).sort == stmtSort(s.Kind) {
				want = api.OK
			}
			expectProgram(t, 0, want, s)
			s.Expr.Args = e.Args[1:]
			if want == api.OK {
				expectProgram(t, 0, api.ErrArg, s)
			}
		}
		s.Expr = tower(api.MaxDepth+1, false)
		expectProgram(t, 0, api.ErrLarge, s)
	}
	expectProgram(t, 0, api.OK, define(api.StPoint, "M", tower(api.MaxDepth, false)))
}

// randomStmt returns a right statement.
func randomStmt(r *rand.Rand) api.Stmt {
	s := sample()[r.Intn(5)]
	s.Pos = r.Intn(100)
	for i := range s.Names {
		s.Names[i] = randomName(r)
	}
	for s.Kind != api.StPoints {
		s.Expr = randomTree(r, "PLCG"[stmtSort(s.Kind)-1], 2+r.Intn(3))
		if s.Expr.Kind != api.ExName {
			break
		}
	}
	return s
}

// P16.3: random programs, with an Expr in one statement that need not be right.
func TestCheckProgramRandom(t *testing.T) {
	r, failed := newSource(), 0
	for range 3 * rounds {
		var stmts []api.Stmt
		for range 1 + r.Intn(5) {
			stmts = append(stmts, randomStmt(r))
		}
		expectProgram(t, 0, api.OK, stmts...)
		at := r.Intn(len(stmts))
		s := &stmts[at]
		if s.Kind == api.StPoints {
			continue
		}
		s.Expr = damage(r, s.Expr)
		want := check(s.Expr, stmtSort(s.Kind))
		if s.Expr.Kind == api.ExName {
			want = api.ErrKind
		}
		if want == api.OK {
			at = 0
		} else {
			failed++
		}
		expectProgram(t, at, want, stmts...)
	}
	if failed < rounds/2 {
		t.Errorf("only %d programs have an error", failed)
	}
}

// P16.3: CheckProgram accepts exactly if it accepts each statement by itself.
func TestCheckProgramParts(t *testing.T) {
	r := newSource()
	for range rounds {
		a, b := randomStmt(r), randomStmt(r)
		if r.Intn(2) == 0 && a.Kind != api.StPoints {
			a.Expr = damage(r, a.Expr)
		}
		_, first := ast.CheckProgram(api.Program{Stmts: []api.Stmt{a}})
		at := 0
		if first != api.OK {
			at = 1
		}
		expectProgram(t, at, first, b, a)
		expectProgram(t, 0, first, a, b)
	}
}
