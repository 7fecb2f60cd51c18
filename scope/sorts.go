package scope

import (
	"geoprover/api"
	"geoprover/ast"
)

// sorts is the names that are defined, each with the sort as which it is defined.
type sorts map[string]int

// sortOf returns the sort as which a kind of statements defines its names, SortNone if it defines none.
func sortOf(kind int) int {
	switch kind {
	case api.StPoints, api.StPoint:
		return api.SortPoint
	case api.StLine:
		return api.SortLine
	case api.StCircle:
		return api.SortCircle
	}
	return api.SortNone
}

// add adds the names that a statement defines.
func (d sorts) add(s api.Stmt) {
	for _, name := range s.Names {
		d[name] = sortOf(s.Kind)
	}
}

// check returns the error of a statement behind those that define d.
func (d sorts) check(s api.Stmt) api.Errno {
	if _, e := ast.CheckProgram(api.Program{Stmts: []api.Stmt{s}}); e != api.OK {
		return e
	}
	if e := d.checkArguments(s.Expr); e != api.OK { // the Expr itself is no name
		return e
	}
	return d.checkNew(s.Names)
}

// checkArguments returns the first error of a name in the arguments of a right expression, from left to right.
func (d sorts) checkArguments(x api.Expr) api.Errno {
	for i, param := range ast.Params(x.Kind) {
		if e := d.checkArgument(x.Args[i], param); e != api.OK {
			return e
		}
	}
	return api.OK
}

// checkArgument returns the first error of a name in an argument for a parameter.
func (d sorts) checkArgument(x api.Expr, param int) api.Errno {
	if x.Kind != api.ExName {
		return d.checkArguments(x)
	}
	sort, found := d[x.Name]
	switch {
	case !found:
		return api.ErrName
	case !fits(sort, param):
		return api.ErrKind
	}
	return api.OK
}

// fits reports whether a name that is defined as a sort can stand for a parameter.
func fits(sort, param int) bool {
	if param == api.SortNone { // the parameter of on
		return sort != api.SortPoint
	}
	return sort == param
}

// checkNew returns ErrTwice if one of the names is defined, or occurs twice among them.
func (d sorts) checkNew(names []string) api.Errno {
	met := map[string]bool{}
	for _, name := range names {
		if _, found := d[name]; found || met[name] {
			return api.ErrTwice
		}
		met[name] = true
	}
	return api.OK
}
