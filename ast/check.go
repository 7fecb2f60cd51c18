package ast

import (
	"geoprover/api"
	"geoprover/lexer"
	"geoprover/rational"
)

// Check returns OK if e is a right expression of the sort. Otherwise it returns ErrArg if there is no such sort; ErrLarge if e is too deep; or the error of the first expression, from left to right, that is not right.
func Check(e api.Expr, sort int) api.Errno {
	switch {
	case sort < api.SortPoint || sort > api.SortGoal:
		return api.ErrArg
	case deeper(e, api.MaxDepth):
		return api.ErrLarge
	}
	return checkTree(e, sort)
}

// checkTree returns the error of e, or the first one of its arguments, as an argument for a parameter.
func checkTree(e api.Expr, param int) api.Errno {
	if wrong := checkTop(e, param); wrong != api.OK {
		return wrong
	}
	for i, next := range Params(e.Kind) {
		if wrong := checkTree(e.Args[i], next); wrong != api.OK {
			return wrong
		}
	}
	return api.OK
}

// checkTop returns the error of e as an argument for a parameter, apart from the errors of its arguments.
func checkTop(e api.Expr, param int) api.Errno {
	isName := e.Kind == api.ExName
	switch {
	case !fits(e.Kind, param):
		return api.ErrKind
	case isName && !lexer.IsName(e.Name):
		return api.ErrName
	case !isName && e.Name != "":
		return api.ErrArg
	case len(e.Args) != len(Params(e.Kind)):
		return api.ErrArg
	case !rightRatio(e):
		return api.ErrArg
	}
	return api.OK
}

// rightRatio reports whether e has a valid Ratio, or the zero value if its kind has none.
func rightRatio(e api.Expr) bool {
	if hasRatio(e.Kind) {
		return rational.Right(e.Ratio)
	}
	return equalRat(e.Ratio, api.Rat{})
}

// CheckProgram returns 0 and OK if all statements of p are right, and otherwise the index of the first one that is not, and its error.
func CheckProgram(p api.Program) (at int, e api.Errno) {
	for i, s := range p.Stmts {
		if e := checkStmt(s); e != api.OK {
			return i, e
		}
	}
	return 0, api.OK
}

// checkStmt returns the error of a statement.
func checkStmt(s api.Stmt) api.Errno {
	switch {
	case s.Kind < api.StPoints || s.Kind > api.StProve:
		return api.ErrKind
	case !rightCount(s):
		return api.ErrArg
	case !allNames(s.Names):
		return api.ErrName
	case s.Kind == api.StPoints:
		return checkNone(s.Expr)
	case s.Expr.Kind == api.ExName:
		return api.ErrKind
	}
	return Check(s.Expr, sortOf(s.Kind))
}

// rightCount reports whether a statement has as many names as its kind.
func rightCount(s api.Stmt) bool {
	switch s.Kind {
	case api.StPoints:
		return len(s.Names) > 0
	case api.StProve:
		return len(s.Names) == 0
	}
	return len(s.Names) == 1
}

// allNames reports whether all elements of l are names.
func allNames(l []string) bool {
	for _, s := range l {
		if !lexer.IsName(s) {
			return false
		}
	}
	return true
}

// checkNone returns ErrArg unless e is zero, apart from Pos.
func checkNone(e api.Expr) api.Errno {
	if !EqualExpr(e, api.Expr{}) {
		return api.ErrArg
	}
	return api.OK
}

// sortOf returns the sort of the Expr of a kind of statements, SortNone for a StPoints.
func sortOf(kind int) int {
	switch kind {
	case api.StPoint:
		return api.SortPoint
	case api.StLine:
		return api.SortLine
	case api.StCircle:
		return api.SortCircle
	case api.StProve:
		return api.SortGoal
	}
	return api.SortNone
}
