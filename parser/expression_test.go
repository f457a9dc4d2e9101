package parser

import (
	"slices"
	"strings"
	"testing"

	"frustum/api"
)

func TestP18_2Examples(t *testing.T) {
	checkExpr(t, "a + b * 2", binary(api.OpAdd, name("a"), binary(api.OpMul, name("b"), integer(2))))
	checkExprError(t, "a < b < c", 1, api.ErrSyntax)
}

func TestP18_2Primary(t *testing.T) {
	a, b, one := name("a"), name("b"), integer(1)
	for _, c := range []struct {
		text string
		want api.Expr
	}{
		{"0", integer(0)}, {"1", one}, {"2147483647", integer(2147483647)}, {"0.0", number(0)}, {"1.5", number(98304)}, {"1.50000", number(98304)}, {"8191.99999", number(536870911)}, {"0.00001", number(1)}, {"true", boolean(1)}, {"false", boolean(0)},
		{"a", a}, {"_", name("_")}, {"vec5", name("vec5")}, {"min", name("min")}, {"True", name("True")}, {strings.Repeat("x", 16384), name(strings.Repeat("x", 16384))},
		{"f()", call("f")}, {"f(a)", call("f", a)}, {"f(a, b)", call("f", a, b)}, {"f(1, a, a, 0.5)", call("f", one, a, a, number(32768))}, {"f(f(a), g())", call("f", call("f", a), call("g"))}, {"f((a))", call("f", a)}, {"f(a | b, -a)", call("f", binary(api.OpOr, a, b), unary(api.OpNegate, a))},
		{"fixed(a)", call("fixed", a)}, {"half(a)", call("half", a)}, {"int(a)", call("int", a)}, {"bool(a)", call("bool", a)}, {"vec2(a, b)", call("vec2", a, b)}, {"vec3(a)", call("vec3", a)}, {"vec4()", call("vec4")},
		{"a.x", member(a, "x")}, {"a.x.y", member(member(a, "x"), "y")}, {"a[1]", index(a, one)}, {"a[b][1]", index(index(a, b), one)}, {"a.x[1].y", member(index(member(a, "x"), one), "y")}, {"a[b[1]]", index(a, index(b, one))}, {"a[b.x]", index(a, member(b, "x"))}, {"a[(1)]", index(a, one)}, {"a[a | b]", index(a, binary(api.OpOr, a, b))}, {"a[-1]", index(a, unary(api.OpNegate, one))},
		{"f(a).x", member(call("f", a), "x")}, {"f()[1]", index(call("f"), one)}, {"f(a)[b].x", member(index(call("f", a), b), "x")}, {"vec2(a, b).y", member(call("vec2", a, b), "y")}, {"f(a.x, b[1])", call("f", member(a, "x"), index(b, one))},
		{"(a)", a}, {"((a))", a}, {"(((1)))", one}, {"(a).x", member(a, "x")}, {"(a)[1]", index(a, one)}, {"(-a).x", member(unary(api.OpNegate, a), "x")}, {"(a + b).x", member(binary(api.OpAdd, a, b), "x")}, {"(a + b)[1]", index(binary(api.OpAdd, a, b), one)}, {"(f(a))", call("f", a)}, {"(true)", boolean(1)}, {"(0.5)", number(32768)},
		{"1.x", member(one, "x")}, {"1.5.x", member(number(98304), "x")}, {"true.x", member(boolean(1), "x")}, {"1[1]", index(one, one)}, {"false[0]", index(boolean(0), integer(0))}, {"a.position", member(a, "position")},
		{"-a", unary(api.OpNegate, a)}, {"!a", unary(api.OpNot, a)}, {"--a", unary(api.OpNegate, unary(api.OpNegate, a))}, {"!!a", unary(api.OpNot, unary(api.OpNot, a))}, {"-!a", unary(api.OpNegate, unary(api.OpNot, a))}, {"!-a", unary(api.OpNot, unary(api.OpNegate, a))}, {"-!-!1", unary(api.OpNegate, unary(api.OpNot, unary(api.OpNegate, unary(api.OpNot, one))))},
		{"-1", unary(api.OpNegate, one)}, {"-1.5", unary(api.OpNegate, number(98304))}, {"!true", unary(api.OpNot, boolean(1))}, {"-a.x", unary(api.OpNegate, member(a, "x"))}, {"!a[1]", unary(api.OpNot, index(a, one))}, {"-f(a)", unary(api.OpNegate, call("f", a))}, {"-(a)", unary(api.OpNegate, a)}, {"-(a + b)", unary(api.OpNegate, binary(api.OpAdd, a, b))}, {"!(-a).x", unary(api.OpNot, member(unary(api.OpNegate, a), "x"))},
		{"a - -b", binary(api.OpSub, a, unary(api.OpNegate, b))}, {"a--b", binary(api.OpSub, a, unary(api.OpNegate, b))}, {"a+-b", binary(api.OpAdd, a, unary(api.OpNegate, b))}, {"a != !b", binary(api.OpNotEqual, a, unary(api.OpNot, b))}, {"-a * -b", binary(api.OpMul, unary(api.OpNegate, a), unary(api.OpNegate, b))}, {"!a & !b", binary(api.OpAnd, unary(api.OpNot, a), unary(api.OpNot, b))}, {"a - - - b", binary(api.OpSub, a, unary(api.OpNegate, unary(api.OpNegate, b)))},
	} {
		checkExpr(t, c.text, c.want)
		// An operand of any operator, and parts of other expressions.
		if len(c.text) < 1000 {
			checkExpr(t, "f("+c.text+","+c.text+")", call("f", c.want, c.want))
			checkExpr(t, "a["+c.text+"]", index(a, c.want))
			checkExpr(t, "-("+c.text+")", unary(api.OpNegate, c.want))
			checkExpr(t, "("+c.text+") * (\n"+c.text+")", binary(api.OpMul, c.want, c.want))
		}
	}
}

func TestP18_2Syntax(t *testing.T) {
	for text, line := range map[string]int{
		"": 1, "\n": 2, "// a": 1, ";": 1, "\n)": 2, "(": 1, "(\n": 2, "()": 1, "(\n)": 2, "(a": 1, "(a\n": 2, "a)": 1, "a\n)": 2, "((a)": 1, "(a))": 1, "(a\nb)": 2, "(a,\nb)": 1, "(a\n,b)": 2,
		"a b": 1, "a\nb": 2, "a 1": 1, "1\n1": 2, "1 a": 1, "1.5\n0.5": 2, "true\nfalse": 2, "a true": 1, "a\n;": 2, "a\n=": 2, "a\n= b": 2, "a;": 1, "a\n{": 2, "a ]": 1, "a\n,": 2, "a,\nb": 1, "a\n:": 2, "a\n->": 2, "a\n!": 2, "a\n!b": 2,
		"+": 1, "+\na": 1, "*a": 1, "\n/a": 2, "== a": 1, "a +": 1, "a +\n": 2, "a +\n* b": 2, "a +\n+ b": 2, "a *\n/ b": 2, "a &\n& b": 2, "a |\n| b": 2, "a <\n= b": 2, "a =\n= b": 1, "a =\n< b": 1, "a >\n> b": 2, "-": 1, "-\n": 2, "!": 1, "-\n*": 2, "!\n=": 2, "-\n)": 2, "a -": 1, "a\n- ": 2, "(a +\n)": 2, "a + (\n)": 2,
		"f(": 1, "f(\n": 2, "f(a": 1, "f(a\n": 2, "f(,": 1, "f(\n,a)": 2, "f(a,": 1, "f(a,\n)": 2, "f(a,,\nb)": 1, "f(a,\n,b)": 2, "f(a\nb)": 2, "f(a;\nb)": 1, "f(a))": 1, "f(a)\n(b)": 2, "f(a)\nb": 2, "f()\n()": 2, "f(\n=": 2, "f(a,\n;": 2,
		"(f)\n(a)": 2, "a.x\n(b)": 2, "a[1]\n(b)": 2, "1\n(a)": 2, "true\n(a)": 2, "1.5\n(a)": 2,
		"a.": 1, "a.\n": 2, "a.\n.x": 2, "a.\n1": 2, "a.\n(x)": 2, "a.\nfixed": 2, "a.\nif": 2, "a.\ntrue": 2, "a.\n[1]": 2, "\n.x": 2, "a .5": 1, "a.x\ny": 2, "a.\n-x": 2, "1.\n": 2, "1.": 1,
		"a[": 1, "a[\n": 2, "a[\n]": 2, "a[1": 1, "a[1\n": 2, "a[1,\n2]": 1, "a[1\n2]": 2, "a[1]]": 1, "a[1)\n": 1, "\n[1]": 2, "a[\n[1]]": 2, "a[1;\n]": 1,
		"fixed": 1, "fixed\n": 2, "vec2\n+ 1": 2, "vec2\n.x": 2, "int\n[1]": 2, "bool\na": 2, "(vec3\n)": 2, "half\n,": 2, "vec4\n;": 2, "f(vec2\n)": 2, "1 + fixed\n": 2,
		"if": 1, "\nlet": 2, "a + if\n": 1, "a +\nmain": 2, "f(\nreturn)": 2, "shader\n": 1, "-\nloop": 2, "else": 1, "emit": 1, "in": 1, "a.x\nin": 2, "a\nbreak": 2,
		"a < b < c": 1, "a < b\n< c": 2, "a == b\n== c": 2, "a != b\n>= c": 2, "a + 1 < b * 2\n> c": 2, "a <= b & c\n": 0, "(a < b\n== c)": 2, "f(a < b\n<= c)": 2, "a[a > b\n> c]": 2, "a < b | a < b\n< c": 2, "a < b + c\n< d": 2, "(a < b) == (c < d)\n!= e": 2,
	} {
		if line > 0 {
			checkExprError(t, text, line, api.ErrSyntax)
		}
	}
	// A comparison in parentheses is an operand like others.
	a, b, c := name("a"), name("b"), name("c")
	checkExpr(t, "(a < b) == c", binary(api.OpEqual, binary(api.OpLess, a, b), c))
	checkExpr(t, "a == (b < c)", binary(api.OpEqual, a, binary(api.OpLess, b, c)))
	checkExpr(t, "a < b & b < c | c < a", binary(api.OpOr, binary(api.OpAnd, binary(api.OpLess, a, b), binary(api.OpLess, b, c)), binary(api.OpLess, c, a)))
	checkExpr(t, "a < b ^ b >= c", binary(api.OpXor, binary(api.OpLess, a, b), binary(api.OpGreaterEqual, b, c)))
	for _, o := range allOperators() {
		for _, p := range allOperators() {
			if o.level == 4 && p.level == 4 {
				checkExprError(t, "a "+o.sign+" b\n"+p.sign+" c", 2, api.ErrSyntax)
				checkExprError(t, "a | 1 + a "+o.sign+"\n - b * 2 \n"+p.sign+" c", 3, api.ErrSyntax)
			}
		}
	}
}

// TestP18_2Operators parses each operator alone, and all pairs and triples of operators.
func TestP18_2Operators(t *testing.T) {
	a, b, c, d := name("a"), name("b"), name("c"), name("d")
	all := allOperators()
	for _, o := range all {
		checkExpr(t, "a"+o.sign+"b", binary(o.op, a, b))
		checkExpr(t, "a\n"+o.sign+"\nb", binary(o.op, a, b))
		checkExpr(t, "(a)"+o.sign+"(b)", binary(o.op, a, b))
		checkExpr(t, "(a"+o.sign+"b)", binary(o.op, a, b))
		checkExpr(t, "-a"+o.sign+" -b", binary(o.op, unary(api.OpNegate, a), unary(api.OpNegate, b)))
		checkExpr(t, "-(a"+o.sign+"b)", unary(api.OpNegate, binary(o.op, a, b)))
		checkExpr(t, "a.x"+o.sign+"b[a]", binary(o.op, member(a, "x"), index(b, a)))
		checkExpr(t, "f(a)"+o.sign+"vec2(b)", binary(o.op, call("f", a), call("vec2", b)))
		checkExpr(t, "f(a"+o.sign+"b, a)", call("f", binary(o.op, a, b), a))
		checkExpr(t, "a[a"+o.sign+"b]", index(a, binary(o.op, a, b)))
		checkExprError(t, o.sign+"\n", 1+strings.Count(o.sign, "-"), api.ErrSyntax)
		checkExprError(t, "a"+o.sign+"\n", 2, api.ErrSyntax)
		checkExprError(t, "(a"+o.sign+"\n)", 2, api.ErrSyntax)
		if o.sign != "-" {
			checkExprError(t, "(\n"+o.sign+"b\n)", 2, api.ErrSyntax)
			checkExprError(t, "a +\n"+o.sign+" b\n", 2, api.ErrSyntax)
		}
		for _, p := range all {
			first, second := binary(p.op, binary(o.op, a, b), c), binary(o.op, a, binary(p.op, b, c))
			checkExpr(t, "(a "+o.sign+" b) "+p.sign+" c", first)
			checkExpr(t, "a "+o.sign+" (b "+p.sign+" c)", second)
			switch text := "a " + o.sign + " b " + p.sign + " c"; {
			case o.level == 4 && p.level == 4:
				checkExprError(t, text, 1, api.ErrSyntax)
			case o.level >= p.level:
				checkExpr(t, text, first)
			default:
				checkExpr(t, text, second)
			}
			for _, q := range all {
				checkTriple(t, []operator{o, p, q}, []api.Expr{a, b, c, d})
			}
		}
	}
}

// checkTriple checks an expression of four operands, which is formed by taking the operators with the highest level first, from left to right.
func checkTriple(t *testing.T, operators []operator, operands []api.Expr) {
	t.Helper()
	text := operands[0].Name
	for i, o := range operators {
		text += " " + o.sign + " " + operands[i+1].Name
	}
	operators, operands = slices.Clone(operators), slices.Clone(operands)
	compared := map[int]bool{}
	for level := 7; level > 0; level-- {
		for i := 0; i < len(operators); {
			if operators[i].level != level {
				i++
				continue
			}
			// A comparison whose operand is a comparison is none.
			if level == 4 && (isComparison(operands[i]) || isComparison(operands[i+1])) {
				compared[level] = true
			}
			operands[i] = binary(operators[i].op, operands[i], operands[i+1])
			operators, operands = slices.Delete(operators, i, i+1), slices.Delete(operands, i+1, i+2)
		}
	}
	if compared[4] {
		checkExprError(t, text, 1, api.ErrSyntax)
		return
	}
	checkExpr(t, text, operands[0])
}

func isComparison(e api.Expr) bool {
	return e.Kind == api.BinaryExpr && e.Op >= api.OpLess && e.Op <= api.OpNotEqual
}

// TestP18_2Rows parses long rows of operators of one level.
func TestP18_2Rows(t *testing.T) {
	for _, signs := range [][]string{{"|"}, {"^"}, {"&"}, {"<<", ">>"}, {"+", "-"}, {"*", "/", "%"}} {
		text, want := "a", name("a")
		for i := range 14 {
			sign := signs[i%len(signs)]
			text += " " + sign + " 1"
			for _, o := range allOperators() {
				if o.sign == sign {
					want = binary(o.op, want, integer(1))
				}
			}
			checkExpr(t, text, want)
		}
	}
}

// TestP18_2Arbitrary parses arbitrary expressions, which are derived from the grammar, and changes tokens of them.
func TestP18_2Arbitrary(t *testing.T) {
	kinds := allTokens()
	next := random(5)
	for range 5000 {
		d := deriver{next: next}
		want := d.expression(4)
		if len(d.tokens) > 200 {
			continue
		}
		if text := dense(d.tokens); exprDepthOf(want) > 16 {
			checkExprError(t, text, 0, api.ErrTooLong)
		} else {
			checkExpr(t, text, want)
		}
		d.tokens[next(len(d.tokens))] = kinds[next(len(kinds))]
		text := strings.Join(d.tokens, "\n")
		line := wrongLine(newRecognizer("WHOLE"), lex(t, text))
		e, got, code := ParseExpr(text)
		if line == 0 && code != api.OK && code != api.ErrTooLong || line > 0 && (code != api.ErrSyntax || got != line || !same(e, api.Expr{})) {
			t.Errorf("ParseExpr(%q) has line %d and error %d, want line %d", shown(text), got, code, line)
		}
	}
}

// TestP18_2AllTexts parses all short lists of telling tokens.
func TestP18_2AllTexts(t *testing.T) {
	start := newRecognizer("WHOLE")
	tokens := []string{"a", "vec2", "1", "0.5", "true", "(", ")", "[", "]", ".", ",", "-", "!", "+", "<", "&", ";", "if"}
	symbols := []string{"<name>", "<type>", "<integer>", "<fixed>", "true", "(", ")", "[", "]", ".", ",", "-", "!", "+", "<", "&", ";", "if"}
	var visit func(text string, length int, r *recognizer)
	visit = func(text string, length int, r *recognizer) {
		line := length + 1
		if r.with("<end>") != nil {
			line = 0
		}
		if _, got, code := ParseExpr(text); got != line || (line > 0) != (code == api.ErrSyntax) {
			t.Errorf("ParseExpr(%q) has line %d and error %d, want line %d", text, got, code, line)
		}
		if length == 5 {
			return
		}
		for i, token := range tokens {
			if next := r.with(symbols[i]); next != nil {
				visit(text+token+"\n", length+1, next)
			} else if _, got, code := ParseExpr(text + token + "\na\n"); got != length+1 || code != api.ErrSyntax {
				t.Errorf("ParseExpr(%q) has line %d and error %d, want line %d", text+token, got, code, length+1)
			}
		}
	}
	visit("", 0, start)
}
