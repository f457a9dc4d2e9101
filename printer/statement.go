package printer

import (
	"strings"

	"frustum/api"
	"frustum/format"
	"frustum/parser"
)

// maxIndent is how often a line is indented at most.
const maxIndent = 16

// maxInt is the largest integer of the shading language.
const maxInt = 1<<31 - 1

// stmts adds the lines of statements.
func (p *printer) stmts(block []api.Stmt, indent int) {
	for _, s := range block {
		p.stmt(s, min(indent, maxIndent))
	}
}

// block adds statements with their braces, up to the last one.
func (p *printer) block(block []api.Stmt, indent int) {
	p.write("{\n")
	p.stmts(block, indent+1)
	p.indent(indent)
	p.write("}")
}

// indent adds the spaces at the beginning of a line.
func (p *printer) indent(indent int) {
	p.write(strings.Repeat("  ", indent))
}

// stmt adds the lines of a statement.
func (p *printer) stmt(s api.Stmt, indent int) {
	p.require(isZero(unused(s)))
	p.indent(indent)
	switch s.Kind {
	case api.LetStmt:
		p.write("let ")
		p.field(api.Field{Name: s.Name, Type: s.Type})
		p.value(s.Value)
	case api.AssignStmt:
		p.require(isTarget(s.Target))
		p.expr(s.Target)
		p.value(s.Value)
	case api.IfStmt:
		p.condition(s, indent)
	case api.LoopStmt:
		p.require(0 <= s.Count && s.Count <= maxInt)
		p.write("loop ", format.FormatInt(s.Count), " ")
		p.block(s.Body, indent)
	default:
		word := stmtWord(s.Kind)
		p.require(word != "")
		p.write(word, ";")
	}
	p.write("\n")
}

// value adds the value of a variable behind it.
func (p *printer) value(e api.Expr) {
	p.write(" = ")
	p.expr(e)
	p.write(";")
}

// condition adds the lines of an if statement.
func (p *printer) condition(s api.Stmt, indent int) {
	p.write("if (")
	p.expr(s.Value)
	p.write(") ")
	p.block(s.Body, indent)
	if len(s.Else) > 0 {
		p.write(" else ")
		p.block(s.Else, indent)
	}
}

// isTarget reports whether an expression is a name, or a member or an index of a target.
func isTarget(e api.Expr) bool {
	for (e.Kind == api.MemberExpr || e.Kind == api.IndexExpr) && len(e.Args) > 0 {
		e = e.Args[0]
	}
	return e.Kind == api.NameExpr
}

// unused returns a statement without its kind and the fields that its kind uses.
func unused(s api.Stmt) api.Stmt {
	switch s.Kind {
	case api.LetStmt:
		s.Name, s.Type, s.Value = "", api.Type{}, api.Expr{}
	case api.AssignStmt:
		s.Target, s.Value = api.Expr{}, api.Expr{}
	case api.IfStmt:
		s.Value, s.Body, s.Else = api.Expr{}, nil, nil
	case api.LoopStmt:
		s.Count, s.Body = 0, nil
	}
	s.Kind = 0
	return s
}

// isZero reports whether no field of a statement is set.
func isZero(s api.Stmt) bool {
	return parser.Equal(api.Module{Main: []api.Stmt{s}}, api.Module{Main: []api.Stmt{{}}})
}

// stmtWord returns the keyword of a statement that consists of one, or the empty string for other kinds.
func stmtWord(kind api.StmtKind) string {
	switch kind {
	case api.BreakStmt:
		return "break"
	case api.ContinueStmt:
		return "continue"
	case api.DiscardStmt:
		return "discard"
	case api.EmitStmt:
		return "emit"
	case api.CutStmt:
		return "cut"
	}
	return ""
}
