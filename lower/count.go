package lower

import (
	"frustum/api"
	"frustum/isa"
)

// Nesting returns the greatest numbers of open constructs and of open loops at an instruction of a valid program.
func Nesting(p api.Program) (int, int) {
	if isa.Validate(p) != api.OK {
		return 0, 0
	}
	constructs, loops, mostConstructs, mostLoops := 0, 0, 0, 0
	for _, in := range p.Code {
		switch in.Op {
		case api.If:
			constructs++
		case api.Loop:
			constructs++
			loops++
		case api.EndIf:
			constructs--
		case api.EndLoop:
			constructs--
			loops--
		}
		mostConstructs, mostLoops = max(mostConstructs, constructs), max(mostLoops, loops)
	}
	return mostConstructs, mostLoops
}

// callees are the names of the functions of a module.
type callees map[string]bool

// Calls returns the number of calls of functions in the functions and Main of a module.
func Calls(m api.Module) int {
	names := callees{}
	for _, f := range m.Functions {
		names[f.Name] = true
	}
	count := names.inStmts(m.Main)
	for _, f := range m.Functions {
		count += names.inStmts(f.Body) + names.inExpr(f.Return)
	}
	return count
}

// inStmts returns the number of calls in statements.
func (names callees) inStmts(block []api.Stmt) int {
	count := 0
	for _, s := range block {
		switch s.Kind {
		case api.AssignStmt:
			count += names.inExpr(s.Target) + names.inExpr(s.Value)
		case api.LetStmt, api.IfStmt:
			count += names.inExpr(s.Value)
		}
		count += names.inStmts(s.Body) + names.inStmts(s.Else)
	}
	return count
}

// inExpr returns the number of calls in an expression.
func (names callees) inExpr(e api.Expr) int {
	count := 0
	if e.Kind == api.CallExpr && names[e.Name] {
		count = 1
	}
	for _, arg := range e.Args {
		count += names.inExpr(arg)
	}
	return count
}
