package scope_test

import (
	"slices"
	"testing"

	"geoprover/api"
	"geoprover/scope"
)

// P19.4
func TestBeginnings(t *testing.T) {
	r, failed := newSource(), 0
	for range 2 * rounds {
		p := randomProgram(t, r, 10)
		for n := range p.Stmts {
			expectStmts(t, 0, api.OK, p.Stmts[:n]...)
		}
		p = damage(t, r, p)
		at, e := scope.Check(p)
		if e == api.OK {
			continue
		}
		failed++
		for n := range p.Stmts {
			if n <= at {
				expectStmts(t, 0, api.OK, p.Stmts[:n]...)
			} else {
				expectStmts(t, at, e, p.Stmts[:n]...)
			}
		}
	}
	if failed < rounds/2 {
		t.Errorf("only %d programs have an error", failed)
	}
}

// P19.5
func TestDependence(t *testing.T) {
	r := newSource()
	for range rounds {
		p := randomProgram(t, r, 12)
		all := scope.Defined(p, api.SortNone)
		depends := map[string][]string{}
		for i, name := range all {
			l, e := scope.Depends(p, name)
			if e != api.OK {
				t.Fatalf("Depends of %s in %q returns %d", name, textOf(t, p), e)
			}
			for _, other := range l {
				if !slices.Contains(all[:i], other) {
					t.Fatalf("%s depends on %s in %q", name, other, textOf(t, p))
				}
				for _, third := range depends[other] {
					if !slices.Contains(l, third) {
						t.Fatalf("%s does not depend on %s in %q", name, third, textOf(t, p))
					}
				}
			}
			depends[name] = l
			if unused := slices.Contains(scope.Unused(p), name); unused != (len(scope.Uses(p, name)) == 0) {
				t.Fatalf("%s is unused in %q: %v", name, textOf(t, p), unused)
			}
		}
	}
}

// P19.6
func TestRenameBack(t *testing.T) {
	r, count := newSource(), 0
	for range rounds {
		p := randomProgram(t, r, 10)
		all := scope.Defined(p, api.SortNone)
		from, to := all[r.Intn(len(all))], pool()[r.Intn(len(pool()))]
		if slices.Contains(all, to) {
			continue
		}
		count++
		q, e := scope.Rename(p, from, to)
		if e != api.OK {
			t.Fatalf("Rename of %s to %s in %q returns %d", from, to, textOf(t, p), e)
		}
		expectStmts(t, 0, api.OK, q.Stmts...)
		expectRename(t, q, to, from, p)
	}
	if count < rounds/4 {
		t.Errorf("only %d names are new", count)
	}
}

// Programs that are not right (R2): whatever the functions return for them, they end.
func TestOtherPrograms(t *testing.T) {
	wrong := []api.Stmt{
		{},
		{Kind: 9, Names: []string{"A", ""}, Expr: name("A")},
		points("A A B on 7"),
		points(""),
		define(api.StPoint, "A", name("A")),
		define(api.StPoint, "B", tree(api.ExApex, names("C B A A")...)),
		define(api.StLine, "A", tree(99, tree(api.ExName), tree(0, names("B")...))),
		{Kind: api.StCircle, Names: []string{"A", "B"}},
		{Kind: api.StProve, Names: []string{"A"}, Expr: api.Expr{Kind: api.ExName, Name: "B", Args: names("A B")}},
	}
	var stmts []api.Stmt
	for range 2 {
		stmts = append(stmts, wrong...)
		slices.Reverse(wrong)
	}
	p := api.Program{Stmts: stmts}
	for _, name := range []string{"", "A", "B", "C", "on", "X"} {
		scope.Uses(p, name)
		scope.Depends(p, name)
		scope.Rename(p, name, "Z")
		scope.Rename(p, "A", name)
	}
	for sort := -1; sort < 6; sort++ {
		scope.Defined(p, sort)
	}
	scope.Unused(p)
	if at, e := scope.Check(p); at != 0 || e != api.ErrKind {
		t.Errorf("Check returns %d, %d", at, e)
	}
}
