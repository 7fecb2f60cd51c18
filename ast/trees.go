package ast

import (
	"slices"

	"geoprover/api"
)

// Equal reports whether two programs are equal, apart from Pos.
func Equal(a, b api.Program) bool { return slices.EqualFunc(a.Stmts, b.Stmts, equalStmt) }

// equalStmt reports whether two statements are equal, apart from Pos.
func equalStmt(a, b api.Stmt) bool {
	return a.Kind == b.Kind && slices.Equal(a.Names, b.Names) && EqualExpr(a.Expr, b.Expr)
}

// EqualExpr reports whether two expressions are equal, apart from Pos.
func EqualExpr(a, b api.Expr) bool {
	return a.Kind == b.Kind && a.Name == b.Name && equalRat(a.Ratio, b.Ratio) && slices.EqualFunc(a.Args, b.Args, EqualExpr)
}

// equalRat reports whether two numbers have the same representation.
func equalRat(a, b api.Rat) bool {
	return a.Num.Neg == b.Num.Neg && slices.Equal(a.Num.Abs, b.Num.Abs) && slices.Equal(a.Den, b.Den)
}

// Names returns the names of all ExName in e, each once, in the order of their first occurrence from left to right.
func Names(e api.Expr) []string {
	var names []string
	met := map[string]bool{}
	walk(e, func(x api.Expr) {
		if x.Kind == api.ExName && !met[x.Name] {
			met[x.Name] = true
			names = append(names, x.Name)
		}
	})
	return names
}

// Depth returns the depth of e: 1 if it has no arguments, and otherwise 1 more than the greatest depth of them.
func Depth(e api.Expr) int {
	depth := 0
	for _, a := range e.Args {
		depth = max(depth, Depth(a))
	}
	return depth + 1
}

// deeper reports whether the depth of e is greater than levels, without looking farther down.
func deeper(e api.Expr, levels int) bool {
	if levels == 0 {
		return true
	}
	for _, a := range e.Args {
		if deeper(a, levels-1) {
			return true
		}
	}
	return false
}

// Size returns the number of statements of p and of all expressions in them, without the Expr of a StPoints.
func Size(p api.Program) int {
	size := len(p.Stmts)
	for _, s := range p.Stmts {
		if s.Kind != api.StPoints {
			walk(s.Expr, func(api.Expr) { size++ })
		}
	}
	return size
}

// walk calls visit for e, and then for its arguments from left to right, each followed by its own arguments.
func walk(e api.Expr, visit func(x api.Expr)) {
	visit(e)
	for _, a := range e.Args {
		walk(a, visit)
	}
}
