package parser

import (
	"frustum/api"
	"frustum/lexer"
)

// signs are the operators of a level of precedence.
type signs map[string]api.Operator

// expression parses an expression. The operands of each level are expressions of the next one.
func (p *parser) expression() api.Expr {
	return p.level(p.exclusion, signs{"|": api.OpOr})
}

func (p *parser) exclusion() api.Expr {
	return p.level(p.conjunction, signs{"^": api.OpXor})
}

func (p *parser) conjunction() api.Expr {
	return p.level(p.comparison, signs{"&": api.OpAnd})
}

func (p *parser) comparison() api.Expr {
	// A comparison is no operand of another one, so that there is at most one.
	e, _ := p.binary(p.shift(), p.shift, signs{"==": api.OpEqual, "!=": api.OpNotEqual, "<": api.OpLess, "<=": api.OpLessEqual, ">": api.OpGreater, ">=": api.OpGreaterEqual})
	return e
}

func (p *parser) shift() api.Expr {
	return p.level(p.sum, signs{"<<": api.OpShiftLeft, ">>": api.OpShiftRight})
}

func (p *parser) sum() api.Expr {
	return p.level(p.product, signs{"+": api.OpAdd, "-": api.OpSub})
}

func (p *parser) product() api.Expr {
	return p.level(p.unary, signs{"*": api.OpMul, "/": api.OpDiv, "%": api.OpMod})
}

// level parses operands with operators of a level between them, which are grouped from left to right.
func (p *parser) level(operand func() api.Expr, operators signs) api.Expr {
	e, found := p.binary(operand(), operand, operators)
	for found {
		e, found = p.binary(e, operand, operators)
	}
	return e
}

// binary parses an operator and its right operand, and reports whether there is one. Without it, the result is the left operand.
func (p *parser) binary(left api.Expr, operand func() api.Expr, operators signs) (api.Expr, bool) {
	op, found := operators[p.peek().Text]
	if !found {
		return left, false
	}
	p.at++
	return api.Expr{Kind: api.BinaryExpr, Op: op, Args: []api.Expr{left, operand()}}, true
}

// unary parses a postfix expression with unary operators in front of it.
func (p *parser) unary() api.Expr {
	switch {
	case p.accept("-"):
		return api.Expr{Kind: api.UnaryExpr, Op: api.OpNegate, Args: []api.Expr{p.unary()}}
	case p.accept("!"):
		return api.Expr{Kind: api.UnaryExpr, Op: api.OpNot, Args: []api.Expr{p.unary()}}
	}
	return p.postfix()
}

// postfix parses a primary expression with members and indices behind it.
func (p *parser) postfix() api.Expr {
	e := p.primary()
	for {
		switch {
		case p.accept("."):
			e = api.Expr{Kind: api.MemberExpr, Name: p.name(), Args: []api.Expr{e}}
		case p.accept("["):
			e = api.Expr{Kind: api.IndexExpr, Args: []api.Expr{e, p.expression()}}
			p.expect("]")
		default:
			return e
		}
	}
}

// primary parses a primary expression.
func (p *parser) primary() api.Expr {
	token := p.peek()
	switch {
	case p.accept("("):
		e := p.expression()
		p.expect(")")
		return e
	case p.accept("true"):
		return api.Expr{Kind: api.BoolExpr, Value: 1}
	case p.accept("false"):
		return api.Expr{Kind: api.BoolExpr}
	case token.Kind == api.IntToken:
		p.at++
		return api.Expr{Kind: api.IntExpr, Value: token.Value}
	case token.Kind == api.FixedToken:
		p.at++
		return api.Expr{Kind: api.NumberExpr, Value: token.Value}
	case lexer.IsTypeWord(token.Text):
		p.at++
		p.expect("(")
		return p.call(token.Text)
	}
	name := p.name()
	if p.accept("(") {
		return p.call(name)
	}
	return api.Expr{Kind: api.NameExpr, Name: name}
}

// call parses the arguments of a call behind their first parenthesis.
func (p *parser) call(name string) api.Expr {
	return api.Expr{Kind: api.CallExpr, Name: name, Args: list(p, p.expression)}
}
