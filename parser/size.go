package parser

import "frustum/api"

// Nodes returns the number of all statements and expressions of a module.
func Nodes(m api.Module) int {
	nodes := stmtNodes(m.Main)
	for _, f := range m.Functions {
		nodes += stmtNodes(f.Body) + ExprNodes(f.Return)
	}
	return nodes
}

// Depth returns the greatest depth of a statement or an expression of a module.
func Depth(m api.Module) int {
	depth := max(stmtDepth(m.Main), valueDepth(m.Main))
	for _, f := range m.Functions {
		depth = max(depth, stmtDepth(f.Body), valueDepth(f.Body), ExprDepth(f.Return))
	}
	return depth
}

// ExprNodes returns the number of expressions in an expression, which counts, too.
func ExprNodes(e api.Expr) int {
	nodes := 1
	for _, arg := range e.Args {
		nodes += ExprNodes(arg)
	}
	return nodes
}

// ExprDepth returns the greatest number of expressions in one another.
func ExprDepth(e api.Expr) int {
	depth := 0
	for _, arg := range e.Args {
		depth = max(depth, ExprDepth(arg))
	}
	return 1 + depth
}

// stmtNodes returns the number of statements and expressions in a block.
func stmtNodes(block []api.Stmt) int {
	nodes := len(block)
	for _, s := range block {
		for _, e := range values(s) {
			nodes += ExprNodes(e)
		}
		nodes += stmtNodes(s.Body) + stmtNodes(s.Else)
	}
	return nodes
}

// stmtDepth returns the greatest number of statements in one another in a block.
func stmtDepth(block []api.Stmt) int {
	depth := 0
	for _, s := range block {
		depth = max(depth, 1+stmtDepth(s.Body), 1+stmtDepth(s.Else))
	}
	return depth
}

// valueDepth returns the greatest depth of an expression in a block.
func valueDepth(block []api.Stmt) int {
	depth := 0
	for _, s := range block {
		for _, e := range values(s) {
			depth = max(depth, ExprDepth(e))
		}
		depth = max(depth, valueDepth(s.Body), valueDepth(s.Else))
	}
	return depth
}

// values returns the expressions of a statement, without those that its kind does not use.
func values(s api.Stmt) []api.Expr {
	switch s.Kind {
	case api.AssignStmt:
		return []api.Expr{s.Target, s.Value}
	case api.LetStmt, api.IfStmt:
		return []api.Expr{s.Value}
	}
	return nil
}
