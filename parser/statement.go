package parser

import "frustum/api"

// block parses statements with their braces.
func (p *parser) block() []api.Stmt {
	p.expect("{")
	return p.statements("}")
}

// statements parses statements up to a keyword or a sign, and moves behind it.
func (p *parser) statements(end string) []api.Stmt {
	var statements []api.Stmt
	for !p.failed() && !p.accept(end) {
		statements = append(statements, p.statement())
	}
	return statements
}

// statement parses a statement.
func (p *parser) statement() api.Stmt {
	switch {
	case p.accept("if"):
		return p.condition()
	case p.accept("loop"):
		return api.Stmt{Kind: api.LoopStmt, Count: p.integer(), Body: p.block()}
	}
	s := p.line()
	p.expect(";")
	return s
}

// condition parses an if statement behind its keyword.
func (p *parser) condition() api.Stmt {
	p.expect("(")
	s := api.Stmt{Kind: api.IfStmt, Value: p.expression()}
	p.expect(")")
	s.Body = p.block()
	if p.accept("else") {
		s.Else = p.block()
	}
	return s
}

// line parses a statement without blocks, up to its semicolon.
func (p *parser) line() api.Stmt {
	if p.accept("let") {
		field := p.field()
		return api.Stmt{Kind: api.LetStmt, Name: field.Name, Type: field.Type, Value: p.value()}
	}
	if kind := wordKind(p.peek().Text); kind != 0 {
		p.at++
		return api.Stmt{Kind: kind}
	}
	return api.Stmt{Kind: api.AssignStmt, Target: p.postfix(), Value: p.value()}
}

// value parses the value of a variable behind its sign.
func (p *parser) value() api.Expr {
	p.expect("=")
	return p.expression()
}

// wordKind returns the kind of the statement that consists of a keyword, or 0 for other texts.
func wordKind(word string) api.StmtKind {
	switch word {
	case "break":
		return api.BreakStmt
	case "continue":
		return api.ContinueStmt
	case "discard":
		return api.DiscardStmt
	case "emit":
		return api.EmitStmt
	case "cut":
		return api.CutStmt
	}
	return 0
}
