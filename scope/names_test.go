package scope_test

import (
	"math"
	"slices"
	"strings"
	"testing"

	"geoprover/api"
	"geoprover/scope"
)

// sample is a right program with names of each sort, some of which are not used.
const sample = "points A, B, C; line l := line(A, B); D := foot(C, l); circle c := circle(D, A); prove same(B, D); points E; line m := bisector(A, on(l));"

// P19.2: the examples of the chapter.
func TestDefinedExamples(t *testing.T) {
	p := rightOf(t, "points A, B; line l := line(A, B);")
	expectWords(t, "Defined", p, scope.Defined(p, api.SortNone), "A B l")
	p = rightOf(t, sample)
	expectWords(t, "Defined", p, scope.Defined(p, api.SortNone), "A B C l D c E m")
	expectWords(t, "Defined", p, scope.Defined(p, api.SortPoint), "A B C D E")
	expectWords(t, "Defined", p, scope.Defined(p, api.SortLine), "l m")
	expectWords(t, "Defined", p, scope.Defined(p, api.SortCircle), "c")
}

// P19.2: numbers that are no sorts of names.
func TestDefinedAsOther(t *testing.T) {
	p := rightOf(t, sample)
	for _, sort := range []int{api.SortGoal, -1, 5, api.StProve, 10, api.ExLine, math.MinInt, math.MaxInt} {
		expectWords(t, "Defined", p, scope.Defined(p, sort), "")
	}
}

// P19.2: the empty program, and one without names of a sort.
func TestNamesOfEmptyPrograms(t *testing.T) {
	for _, p := range []api.Program{{}, {Stmts: []api.Stmt{}}} {
		for sort := api.SortNone; sort <= api.SortGoal; sort++ {
			expectWords(t, "Defined", p, scope.Defined(p, sort), "")
		}
		expectWords(t, "Unused", p, scope.Unused(p), "")
		expectUses(t, p, "A", "[]")
		expectDependsError(t, p, "A")
	}
	p := rightOf(t, "points A;")
	expectWords(t, "Defined", p, scope.Defined(p, api.SortLine), "")
	expectWords(t, "Defined", p, scope.Defined(p, api.SortCircle), "")
}

// P19.2: random programs.
func TestDefinedRandom(t *testing.T) {
	r := newSource()
	for range rounds {
		p := randomProgram(t, r, 10)
		for sort := api.SortNone; sort <= api.SortGoal; sort++ {
			var want []string
			for _, d := range definitions(p.Stmts) {
				if sort == d.sort || sort == api.SortNone {
					want = append(want, d.name)
				}
			}
			expectWords(t, "Defined", p, scope.Defined(p, sort), strings.Join(want, " "))
		}
	}
}

// expectUses fails unless Uses returns these indices.
func expectUses(t *testing.T, p api.Program, name, want string) {
	t.Helper()
	if got := show(scope.Uses(p, name)); got != want {
		t.Fatalf("Uses of %s in %q is %s, want %s", name, textOf(t, p), got, want)
	}
}

// P19.2: the examples of the chapter, and uses of names of each sort in statements of each kind.
func TestUses(t *testing.T) {
	p := rightOf(t, "points A, B, C; M := midpoint(A, B);")
	expectUses(t, p, "A", "[1]")
	expectUses(t, p, "C", "[]")
	expectUses(t, p, "M", "[]") // a definition is no use
	p = rightOf(t, "points A, B; prove same(A, B);")
	expectUses(t, p, "A", "[1]")
	p = rightOf(t, sample)
	for name, want := range map[string]string{
		"A": "[1 3 6]", "B": "[1 4]", "C": "[2]", "D": "[3 4]", "l": "[2 6]", "c": "[]", "E": "[]", "m": "[]",
		"X": "[]", "": "[]", "line": "[]", "a": "[]", "on": "[]",
	} {
		expectUses(t, p, name, want)
	}
	p = rightOf(t, "points A, B; C := apex(A, A); D := apex(A, apex(A, midpoint(B, A)));")
	expectUses(t, p, "A", "[1 2]") // each statement once
	expectUses(t, p, "B", "[2]")
}

// P19.2: the examples of the chapter, and names that nothing uses.
func TestUnused(t *testing.T) {
	for s, want := range map[string]string{
		"points A, B, C; M := midpoint(A, B);":                         "C M",
		"points A, B; prove same(A, B);":                               "",
		"points A, B; prove same(A, A);":                               "B",
		"points A, B;":                                                 "A B",
		"points B, A; line l := line(A, A); circle c := circle(A, A);": "B l c",
		"points C, A; points B; D := apex(B, B); M := midpoint(C, D); prove same(A, A);": "M",
		"points A; B := apex(A, A); C := apex(B, B);":                                    "C",
		sample: "c E m",
	} {
		p := rightOf(t, s)
		expectWords(t, "Unused", p, scope.Unused(p), want)
	}
}

// P19.2: Uses and Unused of random programs, against the texts of their statements.
func TestUsesRandom(t *testing.T) {
	r := newSource()
	for range rounds {
		p := randomProgram(t, r, 10)
		var unused []string
		for _, d := range definitions(p.Stmts) {
			uses := []int{}
			for i, s := range p.Stmts {
				if slices.Contains(usedIn(t, s), d.name) {
					uses = append(uses, i)
				}
			}
			expectUses(t, p, d.name, show(uses))
			if len(uses) == 0 {
				unused = append(unused, d.name)
			}
		}
		expectWords(t, "Unused", p, scope.Unused(p), strings.Join(unused, " "))
	}
}

// expectDepends fails unless Depends returns the names in want, which stand between spaces.
func expectDepends(t *testing.T, p api.Program, name, want string) {
	t.Helper()
	l, e := scope.Depends(p, name)
	if got := strings.Join(l, " "); got != want || e != api.OK {
		t.Fatalf("Depends of %s in %q is %q, %d, want %q", name, textOf(t, p), got, e, want)
	}
}

// expectDependsError fails unless Depends returns ErrName.
func expectDependsError(t *testing.T, p api.Program, name string) {
	t.Helper()
	if l, e := scope.Depends(p, name); len(l) > 0 || e != api.ErrName {
		t.Fatalf("Depends of %s in %q is %v, %d, want ErrName", name, textOf(t, p), l, e)
	}
}

// P19.2: the example of the chapter, and dependence over several definitions.
func TestDepends(t *testing.T) {
	p := rightOf(t, "points A, B, C; line l := line(A, B); D := foot(C, l);")
	for name, want := range map[string]string{"A": "", "B": "", "C": "", "l": "A B", "D": "A B C l"} {
		expectDepends(t, p, name, want)
	}
	p = rightOf(t, sample)
	for name, want := range map[string]string{"c": "A B C l D", "m": "A B l", "E": "", "D": "A B C l"} {
		expectDepends(t, p, name, want)
	}
	p = rightOf(t, "points Z, Y; X := apex(Y, Y); W := apex(X, Z); V := apex(W, W); U := apex(X, X);")
	for name, want := range map[string]string{"X": "Y", "W": "Z Y X", "V": "Z Y X W", "U": "Y X"} {
		expectDepends(t, p, name, want)
	}
}

// P19.2: goals define nothing, so that nothing depends on what they use.
func TestDependsWithGoals(t *testing.T) {
	p := rightOf(t, "points A, B, C; prove same(A, C); M := midpoint(A, B); prove collinear(M, midpoint(A, C), M);")
	expectDepends(t, p, "M", "A B")
	expectDepends(t, p, "C", "")
}

// P19.2: a long chain of definitions.
func TestDependsChain(t *testing.T) {
	names := pool()
	p := api.Program{Stmts: []api.Stmt{points(names[0])}}
	for i, s := range names[1:] {
		p.Stmts = append(p.Stmts, define(api.StPoint, s, tree(api.ExApex, name(names[i]), name(names[i]))))
	}
	for i, s := range names {
		expectDepends(t, p, s, strings.Join(names[:i], " "))
	}
}

// P19.2: names that are not defined.
func TestDependsErrors(t *testing.T) {
	p := rightOf(t, sample)
	for _, name := range []string{"", "X", "a", "L", "on", "points", "AB", "A "} {
		expectDependsError(t, p, name)
	}
}

// P19.2: random programs, where more and more names are found until there are no new ones.
func TestDependsRandom(t *testing.T) {
	r := newSource()
	for range rounds {
		p := randomProgram(t, r, 12)
		all := definitions(p.Stmts)
		for _, d := range all {
			found := map[string]bool{}
			next := usedIn(t, p.Stmts[d.at])
			for len(next) > 0 {
				name := next[0]
				next = next[1:]
				if found[name] {
					continue
				}
				found[name] = true
				i := slices.IndexFunc(all, func(d definition) bool { return d.name == name })
				next = append(next, usedIn(t, p.Stmts[all[i].at])...)
			}
			var want []string
			for _, other := range all {
				if found[other.name] {
					want = append(want, other.name)
				}
			}
			expectDepends(t, p, d.name, strings.Join(want, " "))
		}
	}
}
