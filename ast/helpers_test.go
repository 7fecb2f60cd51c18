package ast_test

import (
	"math/rand"
	"slices"
	"strings"
	"testing"

	"geoprover/api"
	"geoprover/ast"
	"geoprover/rational"
)

// rounds is the number of pseudo-random cases of a test.
const rounds = 400

// newSource returns a generator with a fixed seed, so that each run tests the same trees.
func newSource() *rand.Rand { return rand.New(rand.NewSource(16)) }

// number returns the number with the text s.
func number(s string) api.Rat {
	a, e := rational.Read(s)
	if e != api.OK {
		panic(s)
	}
	return a
}

// name returns the ExName with this name.
func name(s string) api.Expr { return api.Expr{Kind: api.ExName, Name: s} }

// names returns an ExName for each of the names in s, which stand between spaces.
func names(s string) []api.Expr {
	var l []api.Expr
	for _, word := range strings.Fields(s) {
		l = append(l, name(word))
	}
	return l
}

// tree returns the expression of this kind with these arguments.
func tree(kind int, args ...api.Expr) api.Expr { return api.Expr{Kind: kind, Args: args} }

// divide returns an ExDivide with this Ratio.
func divide(a, b api.Expr, ratio string) api.Expr {
	return api.Expr{Kind: api.ExDivide, Args: []api.Expr{a, b}, Ratio: number(ratio)}
}

// tower returns a right point of this depth: midpoints of A and midpoints, which stand on the left if left is true.
func tower(depth int, left bool) api.Expr {
	e := name("B")
	for range depth - 1 {
		if left {
			e = tree(api.ExMidpoint, e, name("A"))
		} else {
			e = tree(api.ExMidpoint, name("A"), e)
		}
	}
	return e
}

// row is a row of the table of the chapter, with a letter for each parameter: P, L, C, or X for a line or a circle.
type row struct {
	kind, sort   int
	word, params string
}

// table returns the table of the chapter.
func table() []row {
	return []row{
		{api.ExMidpoint, api.SortPoint, "midpoint", "PP"},
		{api.ExDivide, api.SortPoint, "divide", "PP"},
		{api.ExReflect, api.SortPoint, "reflect", "PP"},
		{api.ExMirror, api.SortPoint, "mirror", "PL"},
		{api.ExFoot, api.SortPoint, "foot", "PL"},
		{api.ExMeet, api.SortPoint, "meet", "LL"},
		{api.ExOn, api.SortPoint, "on", "X"},
		{api.ExOther, api.SortPoint, "other", "PPP"},
		{api.ExCommon, api.SortPoint, "common", "PPP"},
		{api.ExCenter, api.SortPoint, "center", "PPP"},
		{api.ExShift, api.SortPoint, "shift", "PPP"},
		{api.ExTurn, api.SortPoint, "turn", "PP"},
		{api.ExCut, api.SortPoint, "cut", "LC"},
		{api.ExCross, api.SortPoint, "cross", "CC"},
		{api.ExApex, api.SortPoint, "apex", "PP"},
		{api.ExLine, api.SortLine, "line", "PP"},
		{api.ExParallel, api.SortLine, "parallel", "PL"},
		{api.ExPerpendicular, api.SortLine, "perpendicular", "PL"},
		{api.ExBisector, api.SortLine, "bisector", "PP"},
		{api.ExCircle, api.SortCircle, "circle", "PP"},
		{api.ExCircum, api.SortCircle, "circum", "PPP"},
		{api.ExIsCollinear, api.SortGoal, "collinear", "PPP"},
		{api.ExIsParallel, api.SortGoal, "parallel", "LL"},
		{api.ExIsPerpendicular, api.SortGoal, "perpendicular", "LL"},
		{api.ExIsCongruent, api.SortGoal, "congruent", "PPPP"},
		{api.ExIsMidpoint, api.SortGoal, "midpoint", "PPP"},
		{api.ExIsConcyclic, api.SortGoal, "concyclic", "PPPP"},
		{api.ExIsAngle, api.SortGoal, "angle", "PPPPPP"},
		{api.ExIsSame, api.SortGoal, "same", "PP"},
		{api.ExIsRatio, api.SortGoal, "ratio", "PPPP"},
	}
}

// rowOf returns the row of a kind, the zero value if it has none.
func rowOf(kind int) row {
	i := slices.IndexFunc(table(), func(r row) bool { return r.kind == kind })
	if i < 0 {
		return row{}
	}
	return table()[i]
}

// sorts returns the sorts for which the letters of a row stand.
func sorts(params string) []int {
	var l []int
	for _, p := range params {
		l = append(l, map[rune]int{'P': api.SortPoint, 'L': api.SortLine, 'C': api.SortCircle, 'X': api.SortNone}[p])
	}
	return l
}

// expectCheck fails unless Check returns want.
func expectCheck(t *testing.T, e api.Expr, sort int, want api.Errno) {
	t.Helper()
	if got := ast.Check(e, sort); got != want {
		t.Fatalf("Check of %s as %d is %d, want %d", show(e), sort, got, want)
	}
}

// expectProgram fails unless CheckProgram of the statements returns the index at and the error e.
func expectProgram(t *testing.T, at int, e api.Errno, stmts ...api.Stmt) {
	t.Helper()
	gotAt, gotE := ast.CheckProgram(api.Program{Stmts: stmts})
	if gotAt != at || gotE != e {
		t.Fatalf("CheckProgram of %v returns %d, %d, want %d, %d", stmts, gotAt, gotE, at, e)
	}
}

// show returns the text of a tree, right or not, up to a certain length.
func show(e api.Expr) string {
	s := e.Name
	if e.Kind != api.ExName {
		s += "<" + rowOf(e.Kind).word + ">"
	}
	for i, a := range e.Args {
		s += map[bool]string{true: "(", false: ", "}[i == 0] + show(a)
		if len(s) > 300 {
			return s[:300] + ".."
		}
	}
	if len(e.Args) > 0 {
		s += ")"
	}
	return s
}

// isOfSort reports whether the kind is of the sort, by the definition of the chapter.
func isOfSort(kind, sort int) bool {
	return kind == api.ExName && sort >= api.SortPoint && sort <= api.SortCircle || rowOf(kind).word != "" && rowOf(kind).sort == sort
}

// keywords is the list of chapter 15.
const keywords = " angle apex bisector center circle circum collinear common concyclic congruent cross cut divide foot line meet midpoint mirror on other parallel perpendicular points prove ratio reflect same shift turn "

// isName reports whether s is a name, by the definition of chapter 15.
func isName(s string) bool {
	const letters, digits = "ABCDEFGHIJKLMNOPQRSTUVWXYZabcdefghijklmnopqrstuvwxyz", "0123456789"
	return s != "" && len(s) <= 20 && strings.Trim(s, letters+digits) == "" && strings.Contains(letters, s[:1]) && !strings.Contains(keywords, " "+s+" ")
}

// part is an expression in a tree and the letter of the parameter that it stands for.
type part struct {
	e     api.Expr
	param byte
}

// parts returns e and all expressions in it from left to right, each with its parameter; behind the first one with more or fewer arguments than parameters there need not be any.
func parts(e api.Expr, param byte) []part {
	l := []part{{e, param}}
	params := rowOf(e.Kind).params
	if len(e.Args) != len(params) {
		return l
	}
	for i, a := range e.Args {
		l = append(l, parts(a, params[i])...)
	}
	return l
}

// errorOf returns the error of an expression in a tree by the definition of Check.
func errorOf(p part) api.Errno {
	fits := p.param == 'X' && (isOfSort(p.e.Kind, api.SortLine) || isOfSort(p.e.Kind, api.SortCircle))
	for i, letter := range "PLCG" {
		fits = fits || byte(letter) == p.param && isOfSort(p.e.Kind, i+1)
	}
	if !fits {
		return api.ErrKind
	}
	if p.e.Kind == api.ExName && !isName(p.e.Name) {
		return api.ErrName
	}
	r := p.e.Ratio
	right := !r.Num.Neg && len(r.Num.Abs) == 0 && len(r.Den) == 0
	if p.e.Kind == api.ExDivide || p.e.Kind == api.ExIsRatio {
		right = rational.Right(r)
	}
	if !right || p.e.Kind != api.ExName && p.e.Name != "" || len(p.e.Args) != len(rowOf(p.e.Kind).params) {
		return api.ErrArg
	}
	return api.OK
}

// depth returns the depth of e, level by level.
func depth(e api.Expr) int {
	n := 0
	for level := []api.Expr{e}; len(level) > 0; n++ {
		var next []api.Expr
		for _, x := range level {
			next = append(next, x.Args...)
		}
		level = next
	}
	return n
}

// check returns what Check has to return for e and the sort.
func check(e api.Expr, sort int) api.Errno {
	if sort < 1 || sort > 4 {
		return api.ErrArg
	}
	if depth(e) > 20 {
		return api.ErrLarge
	}
	for _, p := range parts(e, "PLCG"[sort-1]) {
		if errno := errorOf(p); errno != api.OK {
			return errno
		}
	}
	return api.OK
}

// randomName returns a name, often one that occurs often.
func randomName(r *rand.Rand) string {
	return []string{"A", "B", "C", "D", "l", "m", "M1", "lines", "Q7x", strings.Repeat("z", 20)}[r.Intn(10)]
}

// randomTree returns a right expression for the parameter, with at most so many levels.
func randomTree(r *rand.Rand, param byte, levels int) api.Expr {
	if param == 'X' {
		param = "LC"[r.Intn(2)]
	}
	if param != 'G' && (levels < 2 || r.Intn(3) == 0) {
		e := name(randomName(r))
		e.Pos = r.Intn(100)
		return e
	}
	var rows []row
	for _, x := range table() {
		if x.sort == strings.IndexByte("PLCG", param)+1 {
			rows = append(rows, x)
		}
	}
	x := rows[r.Intn(len(rows))]
	e := api.Expr{Kind: x.kind, Pos: r.Intn(100)}
	for i := range len(x.params) {
		e.Args = append(e.Args, randomTree(r, x.params[i], levels-1))
	}
	if x.word == "divide" || x.word == "ratio" {
		e.Ratio = rational.Frac(r.Intn(41)-20, 1+r.Intn(9))
	}
	return e
}

// clone returns a copy of e with memory of its own.
func clone(e api.Expr) api.Expr {
	args := e.Args
	e.Args = nil
	for _, a := range args {
		e.Args = append(e.Args, clone(a))
	}
	return e
}

// nodes returns pointers to all expressions in e.
func nodes(e *api.Expr) []*api.Expr {
	l := []*api.Expr{e}
	for i := range e.Args {
		l = append(l, nodes(&e.Args[i])...)
	}
	return l
}

// damage returns a copy of e in which one expression was changed in one way.
func damage(r *rand.Rand, e api.Expr) api.Expr {
	c := clone(e)
	l := nodes(&c)
	x := l[r.Intn(len(l))]
	switch r.Intn(8) {
	case 0:
		x.Kind = r.Intn(72) - 1
	case 1:
		x.Kind = table()[r.Intn(len(table()))].kind
	case 2:
		x.Name += []string{"", "_", "1", "on", strings.Repeat("z", 20)}[r.Intn(5)]
	case 3:
		x.Name = []string{"", "foot", "X", "9"}[r.Intn(4)]
	case 4:
		x.Args = append(x.Args, name(randomName(r)))
	case 5:
		x.Args = x.Args[min(1, len(x.Args)):]
	case 6:
		x.Ratio = []api.Rat{{}, number("1"), number("-1/2"), {Num: api.Int{Neg: true}, Den: api.Nat{1}}}[r.Intn(4)]
	case 7:
		*x = randomTree(r, "PLCG"[r.Intn(4)], 3)
	}
	return c
}
