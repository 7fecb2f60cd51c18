package scope

import (
	"slices"

	"geoprover/api"
	"geoprover/fresh"
)

// renaming replaces a name by another one. What its methods return is new memory.
type renaming struct{ from, to string }

// name returns what stands instead of a name.
func (r renaming) name(name string) string {
	if name == r.from {
		return r.to
	}
	return name
}

// program returns p with the other name.
func (r renaming) program(p api.Program) api.Program {
	stmts := slices.Clone(p.Stmts)
	for i, s := range stmts {
		stmts[i].Names = slices.Clone(s.Names)
		for k, name := range s.Names {
			stmts[i].Names[k] = r.name(name)
		}
		stmts[i].Expr = r.expr(s.Expr)
	}
	return api.Program{Stmts: stmts}
}

// expr returns x with the other name.
func (r renaming) expr(x api.Expr) api.Expr {
	if x.Kind == api.ExName {
		x.Name = r.name(x.Name)
	}
	x.Ratio = fresh.Rat(x.Ratio)
	x.Args = slices.Clone(x.Args)
	for i, a := range x.Args {
		x.Args[i] = r.expr(a)
	}
	return x
}
