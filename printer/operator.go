package printer

import "frustum/api"

// Operator returns the sign of an operator, or the empty string if it is unknown.
func Operator(op api.Operator) string {
	switch op {
	case api.OpAdd:
		return "+"
	case api.OpNegate:
		// A negation has the sign of a difference.
		fallthrough
	case api.OpSub:
		return "-"
	case api.OpMul:
		return "*"
	case api.OpDiv:
		return "/"
	case api.OpMod:
		return "%"
	case api.OpAnd:
		return "&"
	case api.OpOr:
		return "|"
	case api.OpXor:
		return "^"
	case api.OpShiftLeft:
		return "<<"
	case api.OpShiftRight:
		return ">>"
	case api.OpLess:
		return "<"
	case api.OpLessEqual:
		return "<="
	case api.OpGreater:
		return ">"
	case api.OpGreaterEqual:
		return ">="
	case api.OpEqual:
		return "=="
	case api.OpNotEqual:
		return "!="
	case api.OpNot:
		return "!"
	}
	return ""
}

// Precedence returns the level of an operator, which is higher for those that bind tighter; 0 if it is unknown.
func Precedence(op api.Operator) int {
	switch op {
	case api.OpOr:
		return 1
	case api.OpXor:
		return 2
	case api.OpAnd:
		return 3
	case api.OpLess, api.OpLessEqual, api.OpGreater, api.OpGreaterEqual, api.OpEqual, api.OpNotEqual:
		return 4
	case api.OpShiftLeft, api.OpShiftRight:
		return 5
	case api.OpAdd, api.OpSub:
		return 6
	case api.OpMul, api.OpDiv, api.OpMod:
		return 7
	case api.OpNegate, api.OpNot:
		return unaryLevel
	}
	return 0
}
