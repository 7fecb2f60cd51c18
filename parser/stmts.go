package parser

import "geoprover/api"

// stmts reads statements.
type stmts struct{ *cursor }

// all reads statements up to the end.
func (s stmts) all() ([]api.Stmt, bool) {
	var l []api.Stmt
	for s.token().Kind != api.TkEnd {
		x, ok := s.stmt()
		if !ok {
			return nil, false
		}
		l = append(l, x)
	}
	return l, true
}

// stmt reads a statement.
func (s stmts) stmt() (x api.Stmt, ok bool) {
	pos := s.token().Pos
	switch {
	case s.skip("points"):
		x, ok = s.points()
	case s.skip("line"):
		x, ok = s.definition(api.StLine, api.SortLine)
	case s.skip("circle"):
		x, ok = s.definition(api.StCircle, api.SortCircle)
	case s.skip("prove"):
		x, ok = s.goal()
	default:
		x, ok = s.definition(api.StPoint, api.SortPoint)
	}
	x.Pos = pos
	return x, ok && s.expect(";")
}

// points reads the names of free points.
func (s stmts) points() (api.Stmt, bool) {
	x := api.Stmt{Kind: api.StPoints}
	for {
		name, ok := s.name()
		if !ok {
			return api.Stmt{}, false
		}
		x.Names = append(x.Names, name)
		if !s.skip(",") {
			return x, true
		}
	}
}

// definition reads a name and the construction of this sort for which it stands.
func (s stmts) definition(kind, sort int) (api.Stmt, bool) {
	name, ok := s.name()
	if !ok || !s.expect(":=") {
		return api.Stmt{}, false
	}
	e, ok := s.construction(sort)
	return api.Stmt{Kind: kind, Names: []string{name}, Expr: e}, ok
}

// goal reads a goal.
func (s stmts) goal() (api.Stmt, bool) {
	e, ok := s.construction(api.SortGoal)
	return api.Stmt{Kind: api.StProve, Expr: e}, ok
}

// construction reads the construction of a statement, at the position of the statements.
func (s stmts) construction(sort int) (api.Expr, bool) {
	return exprs{s.cursor}.construction(1, []int{sort})
}
