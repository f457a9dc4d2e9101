package printer

import (
	"frustum/api"
	"frustum/format"
	"frustum/lexer"
)

// The levels of unary expressions, and of those that are never put in parentheses.
const (
	unaryLevel   = 8
	primaryLevel = 9
)

// expr adds the text of an expression.
func (p *printer) expr(e api.Expr) {
	if !isExpr(e) {
		p.require(false)
		return
	}
	switch e.Kind {
	case api.NumberExpr:
		p.write(format.FormatFixed(e.Value))
	case api.IntExpr:
		p.write(format.FormatInt(e.Value))
	case api.BoolExpr:
		p.write(boolWord(e.Value))
	case api.NameExpr:
		p.write(e.Name)
	case api.UnaryExpr:
		p.write(Operator(e.Op))
		p.operand(e.Args[0], unaryLevel)
	case api.BinaryExpr:
		p.binary(e)
	case api.CallExpr:
		p.call(e)
	case api.MemberExpr:
		p.operand(e.Args[0], primaryLevel)
		p.write(".", e.Name)
	case api.IndexExpr:
		p.operand(e.Args[0], primaryLevel)
		p.write("[")
		p.expr(e.Args[1])
		p.write("]")
	}
}

// binary adds the text of a binary expression.
func (p *printer) binary(e api.Expr) {
	level := Precedence(e.Op)
	left := level
	// A comparison is no operand of another one.
	if level == Precedence(api.OpEqual) {
		left++
	}
	p.operand(e.Args[0], left)
	p.write(" ", Operator(e.Op), " ")
	// Equal operators are grouped from left to right.
	p.operand(e.Args[1], level+1)
}

// call adds the text of a call.
func (p *printer) call(e api.Expr) {
	p.write(e.Name, "(")
	for i, arg := range e.Args {
		p.separate(i)
		p.expr(arg)
	}
	p.write(")")
}

// operand adds the text of an expression, in parentheses if its level is lower than the required one.
func (p *printer) operand(e api.Expr, required int) {
	if levelOf(e) >= required {
		p.expr(e)
		return
	}
	p.write("(")
	p.expr(e)
	p.write(")")
}

// levelOf returns the precedence of an expression.
func levelOf(e api.Expr) int {
	if e.Kind == api.UnaryExpr || e.Kind == api.BinaryExpr {
		return Precedence(e.Op)
	}
	return primaryLevel
}

// boolWord returns the keyword of a truth value.
func boolWord(value int) string {
	if value == 1 {
		return "true"
	}
	return "false"
}

// isExpr reports whether the parser can produce an expression with these fields. Its arguments are only counted.
func isExpr(e api.Expr) bool {
	return isCount(e.Kind, len(e.Args)) && isOperatorOf(e.Kind, e.Op) && isNameOf(e.Kind, e.Name) && 0 <= e.Value && e.Value <= maxValueOf(e.Kind)
}

// isCount reports whether expressions of a kind can have a number of arguments.
func isCount(kind api.ExprKind, count int) bool {
	switch kind {
	case api.NumberExpr, api.IntExpr, api.BoolExpr, api.NameExpr:
		return count == 0
	case api.UnaryExpr, api.MemberExpr:
		return count == 1
	case api.BinaryExpr, api.IndexExpr:
		return count == 2
	}
	return kind == api.CallExpr
}

// isOperatorOf reports whether expressions of a kind can have an operator, which is 0 for most of them.
func isOperatorOf(kind api.ExprKind, op api.Operator) bool {
	level := Precedence(op)
	switch kind {
	case api.UnaryExpr:
		return level == unaryLevel
	case api.BinaryExpr:
		return 0 < level && level < unaryLevel
	}
	return op == 0
}

// isNameOf reports whether expressions of a kind can have a name, which is empty for most of them.
func isNameOf(kind api.ExprKind, name string) bool {
	switch kind {
	case api.NameExpr, api.MemberExpr:
		return isName(name)
	case api.CallExpr:
		return isName(name) || lexer.IsTypeWord(name)
	}
	return name == ""
}

// maxValueOf returns the largest value of expressions of a kind, which is 0 for most of them.
func maxValueOf(kind api.ExprKind) int {
	switch kind {
	case api.NumberExpr:
		return api.MaxValue
	case api.IntExpr:
		return maxInt
	case api.BoolExpr:
		return 1
	}
	return 0
}
