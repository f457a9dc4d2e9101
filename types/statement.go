package types

import "frustum/api"

// body is a place in the statements of a function or of Main, with the variables that are visible there.
type body struct {
	view
	// used are the names of the globals and of the visible variables.
	used names
	// params is the number of variables that are parameters, and loops that of the loops around the place.
	params, loops int
	isMain        bool
}

// add makes a variable visible.
func (b *body) add(variable api.Field) {
	b.variables = append(b.variables, variable)
	b.used[variable.Name] = true
}

// block returns the first error of the statements of a block. Behind it, its variables are not visible any more.
func (b *body) block(block []api.Stmt) api.Errno {
	outside := len(b.variables)
	if code := b.stmts(block); code != api.OK {
		return code
	}
	for _, variable := range b.variables[outside:] {
		delete(b.used, variable.Name)
	}
	b.variables = b.variables[:outside]
	return api.OK
}

// stmts returns the first error of statements.
func (b *body) stmts(block []api.Stmt) api.Errno {
	for _, s := range block {
		if code := b.stmt(s); code != api.OK {
			return code
		}
	}
	return api.OK
}

// stmt returns the first error of a statement.
func (b *body) stmt(s api.Stmt) api.Errno {
	switch s.Kind {
	case api.LetStmt:
		return b.let(s)
	case api.AssignStmt:
		return b.assign(s)
	case api.IfStmt:
		return b.condition(s)
	case api.LoopStmt:
		return b.loop(s)
	}
	if !b.allows(s.Kind) {
		return api.ErrKind
	}
	return api.OK
}

// allows reports whether a statement that consists of its kind can be at this place.
func (b *body) allows(kind api.StmtKind) bool {
	switch kind {
	case api.BreakStmt, api.ContinueStmt:
		return b.loops > 0
	case api.DiscardStmt:
		return b.isMain && b.m.Stage == api.FragmentStage
	case api.EmitStmt, api.CutStmt:
		return b.isMain && b.m.Stage == api.GeometryStage
	}
	return false
}

// require returns the error of an expression, or that of another type than the required one.
func (b *body) require(e api.Expr, required api.Type) api.Errno {
	t, code := b.typeOf(e)
	if code == api.OK && t != required {
		return api.ErrType
	}
	return code
}

// let returns the first error of the declaration of a variable.
func (b *body) let(s api.Stmt) api.Errno {
	if code := b.used.declareVariable(b.m, s.Name, s.Type); code != api.OK {
		return code
	}
	if code := b.require(s.Value, s.Type); code != api.OK {
		return code
	}
	b.add(api.Field{Name: s.Name, Type: s.Type})
	return api.OK
}

// assign returns the first error of an assignment.
func (b *body) assign(s api.Stmt) api.Errno {
	variable, found := variableOf(s.Target)
	if !found {
		return api.ErrKind
	}
	t, code := b.typeOf(s.Target)
	switch {
	case code != api.OK:
		return code
	case !b.isAssignable(variable):
		return api.ErrName
	}
	return b.require(s.Value, t)
}

// variableOf returns the name of the variable of a target, and whether the expression is one.
func variableOf(e api.Expr) (string, bool) {
	for (e.Kind == api.MemberExpr || e.Kind == api.IndexExpr) && len(e.Args) > 0 {
		e = e.Args[0]
	}
	return e.Name, e.Kind == api.NameExpr
}

// isAssignable reports whether a variable is neither a parameter nor a uniform nor an input.
func (b *body) isAssignable(name string) bool {
	if i := b.findVariable(name); i >= 0 {
		return i >= b.params
	}
	return findField(b.m.Outputs, name) >= 0
}

// condition returns the first error of an if statement.
func (b *body) condition(s api.Stmt) api.Errno {
	if code := b.require(s.Value, api.Type{Kind: api.BoolType}); code != api.OK {
		return code
	}
	if code := b.block(s.Body); code != api.OK {
		return code
	}
	return b.block(s.Else)
}

// loop returns the first error of a loop.
func (b *body) loop(s api.Stmt) api.Errno {
	switch {
	case !b.isMain:
		return api.ErrKind
	case s.Count < 1 || s.Count > api.MaxLoop:
		return api.ErrRange
	case b.loops == api.MaxLoopDepth:
		return api.ErrTooLong
	}
	b.loops++
	code := b.block(s.Body)
	b.loops--
	return code
}
