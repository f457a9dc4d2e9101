package printer

import (
	"math"
	"slices"
	"strings"
	"testing"

	"frustum/api"
	"frustum/parser"
)

func TestP19_1Operator(t *testing.T) {
	for op, want := range map[api.Operator]string{api.OpAdd: "+", api.OpSub: "-", api.OpMul: "*", api.OpDiv: "/", api.OpMod: "%", api.OpAnd: "&", api.OpOr: "|", api.OpXor: "^", api.OpShiftLeft: "<<", api.OpShiftRight: ">>", api.OpLess: "<", api.OpLessEqual: "<=", api.OpGreater: ">", api.OpGreaterEqual: ">=", api.OpEqual: "==", api.OpNotEqual: "!=", api.OpNegate: "-", api.OpNot: "!"} {
		if got := Operator(op); got != want || signs()[op] != want {
			t.Errorf("operator %d is %q, want %q", op, got, want)
		}
	}
	for _, op := range []api.Operator{math.MinInt, math.MinInt + 1, -1 << 32, -19, -18, -2, -1, 0, 19, 20, 100, 1 << 32, 1<<32 + 1, 1<<32 + 17, 1 << 62, math.MaxInt - 1, math.MaxInt} {
		if got := Operator(op); got != "" {
			t.Errorf("operator %d is %q", op, got)
		}
	}
}

func TestP19_1Precedence(t *testing.T) {
	for op, want := range map[api.Operator]int{api.OpOr: 1, api.OpXor: 2, api.OpAnd: 3, api.OpLess: 4, api.OpLessEqual: 4, api.OpGreater: 4, api.OpGreaterEqual: 4, api.OpEqual: 4, api.OpNotEqual: 4, api.OpShiftLeft: 5, api.OpShiftRight: 5, api.OpAdd: 6, api.OpSub: 6, api.OpMul: 7, api.OpDiv: 7, api.OpMod: 7, api.OpNegate: 8, api.OpNot: 8} {
		if got := Precedence(op); got != want || precedences()[op] != want {
			t.Errorf("the precedence of %d is %d, want %d", op, got, want)
		}
	}
	for _, op := range []api.Operator{math.MinInt, math.MinInt + 1, -1 << 32, -19, -18, -2, -1, 0, 19, 20, 100, 1 << 32, 1<<32 + 1, 1<<32 + 17, 1 << 62, math.MaxInt - 1, math.MaxInt} {
		if got := Precedence(op); got != 0 {
			t.Errorf("the precedence of %d is %d", op, got)
		}
	}
}

func TestP19_1TypeName(t *testing.T) {
	words := typeWords()
	for kind := api.TypeKind(1); kind <= 7; kind++ {
		if got := TypeName(api.Type{Kind: kind}); got != words[kind-1] {
			t.Errorf("the name of kind %d is %q", kind, got)
		}
		for _, name := range slices.Concat(names(), noNames(), []string{words[kind-1]}) {
			if got := TypeName(api.Type{Kind: kind, Name: name}); got != "" && name != "" {
				t.Errorf("the name of kind %d with the name %.20q is %q", kind, name, got)
			}
		}
	}
	for _, name := range names() {
		if got := TypeName(structType(name)); got != name {
			t.Errorf("the name of the struct %q is %q", name, got)
		}
	}
	for _, name := range noNames() {
		if got := TypeName(structType(name)); got != "" {
			t.Errorf("the name of the struct %.20q is %q", name, got)
		}
	}
	for _, kind := range []api.TypeKind{math.MinInt, -8, -1, 0, 9, 10, 255, 1<<32 + 1, math.MaxInt} {
		for _, name := range []string{"", "a", "fixed", "1"} {
			if got := TypeName(api.Type{Kind: kind, Name: name}); got != "" {
				t.Errorf("the name of kind %d with the name %q is %q", kind, name, got)
			}
		}
	}
}

func TestP19_2Examples(t *testing.T) {
	a, b, c := name("a"), name("b"), name("c")
	checkExpr(t, binary(api.OpMul, binary(api.OpAdd, a, b), c), "(a + b) * c")
	checkExpr(t, binary(api.OpSub, a, binary(api.OpSub, b, c)), "a - (b - c)")
}

func TestP19_2Kinds(t *testing.T) {
	a, b, one := name("a"), name("b"), integer(1)
	sum, negation := binary(api.OpAdd, a, b), unary(api.OpNegate, a)
	for _, c := range []struct {
		e    api.Expr
		want string
	}{
		{number(0), "0.0"}, {number(1), "0.00002"}, {number(32768), "0.5"}, {number(65536), "1.0"}, {number(98304), "1.5"}, {number(536870910), "8191.99997"}, {number(536870911), "8191.99998"},
		{integer(0), "0"}, {one, "1"}, {integer(10), "10"}, {integer(65536), "65536"}, {integer(536870912), "536870912"}, {integer(2147483646), "2147483646"}, {integer(2147483647), "2147483647"}, {boolean(1), "true"}, {boolean(0), "false"},
		{a, "a"}, {name("_"), "_"}, {name("vec5"), "vec5"}, {name("min"), "min"}, {name("a123456789012345"), "a123456789012345"},
		{negation, "-a"}, {unary(api.OpNot, a), "!a"}, {unary(api.OpNegate, one), "-1"}, {unary(api.OpNegate, number(98304)), "-1.5"}, {unary(api.OpNot, boolean(1)), "!true"}, {unary(api.OpNegate, negation), "--a"}, {unary(api.OpNot, negation), "!-a"}, {unary(api.OpNegate, unary(api.OpNot, a)), "-!a"}, {unary(api.OpNot, unary(api.OpNot, unary(api.OpNot, a))), "!!!a"},
		{unary(api.OpNegate, sum), "-(a + b)"}, {unary(api.OpNot, binary(api.OpMul, a, b)), "!(a * b)"}, {unary(api.OpNegate, call("f", a)), "-f(a)"}, {unary(api.OpNegate, member(a, "x")), "-a.x"}, {unary(api.OpNot, index(a, one)), "!a[1]"},
		{call("f"), "f()"}, {call("f", a), "f(a)"}, {call("f", a, b), "f(a, b)"}, {call("f", a, b, one, a), "f(a, b, 1, a)"}, {call("f", sum, negation), "f(a + b, -a)"}, {call("f", binary(api.OpOr, a, b)), "f(a | b)"}, {call("f", call("g"), call("h", call("g", a))), "f(g(), h(g(a)))"}, {call("min", a, b), "min(a, b)"},
		{call("fixed", a), "fixed(a)"}, {call("half", a), "half(a)"}, {call("int", a), "int(a)"}, {call("bool", a), "bool(a)"}, {call("vec2", a, b), "vec2(a, b)"}, {call("vec3"), "vec3()"}, {call("vec4", a), "vec4(a)"},
		{member(a, "x"), "a.x"}, {member(member(a, "x"), "y"), "a.x.y"}, {member(sum, "x"), "(a + b).x"}, {member(negation, "x"), "(-a).x"}, {member(unary(api.OpNot, a), "x"), "(!a).x"}, {member(call("f", sum), "x"), "f(a + b).x"}, {member(index(a, one), "x"), "a[1].x"}, {member(one, "x"), "1.x"}, {member(number(65536), "x"), "1.0.x"}, {member(boolean(0), "x"), "false.x"}, {member(a, "position"), "a.position"},
		{index(a, one), "a[1]"}, {index(index(a, b), one), "a[b][1]"}, {index(a, index(b, one)), "a[b[1]]"}, {index(sum, sum), "(a + b)[a + b]"}, {index(negation, negation), "(-a)[-a]"}, {index(call("f"), call("g")), "f()[g()]"}, {index(member(a, "x"), member(b, "y")), "a.x[b.y]"}, {index(one, one), "1[1]"}, {index(boolean(1), number(0)), "true[0.0]"},
		{binary(api.OpSub, a, negation), "a - -a"}, {binary(api.OpSub, negation, b), "-a - b"}, {binary(api.OpMul, negation, unary(api.OpNot, b)), "-a * !b"}, {binary(api.OpNotEqual, a, unary(api.OpNot, b)), "a != !b"}, {binary(api.OpAdd, call("f"), index(a, b)), "f() + a[b]"}, {binary(api.OpLess, member(a, "x"), number(65536)), "a.x < 1.0"},
		{binary(api.OpSub, unary(api.OpNegate, binary(api.OpSub, a, b)), a), "-(a - b) - a"}, {binary(api.OpAdd, binary(api.OpAdd, a, b), binary(api.OpAdd, a, b)), "a + b + (a + b)"}, {binary(api.OpEqual, binary(api.OpLess, a, b), binary(api.OpLess, b, a)), "(a < b) == (b < a)"},
	} {
		checkExpr(t, c.e, c.want)
	}
}

// TestP19_2Operators prints all pairs of operators: an expression in parentheses would be another one, or none, without them.
func TestP19_2Operators(t *testing.T) {
	a, b, c := name("a"), name("b"), name("c")
	check := func(e api.Expr, bare, parenthesized string, necessary bool) {
		want := bare
		if necessary {
			want = parenthesized
		}
		checkExpr(t, e, want)
		if read, _, code := parser.ParseExpr(bare); necessary == (code == api.OK && same(read, e)) {
			t.Errorf("parentheses in %q: %t", want, necessary)
		}
	}
	for _, o := range operators() {
		s := signs()[o]
		checkExpr(t, binary(o, a, b), "a "+s+" b")
		checkExpr(t, binary(o, integer(0), boolean(1)), "0 "+s+" true")
		for _, u := range []api.Operator{api.OpNegate, api.OpNot} {
			check(unary(u, binary(o, a, b)), signs()[u]+"a "+s+" b", signs()[u]+"(a "+s+" b)", true)
			check(binary(o, unary(u, a), unary(u, b)), signs()[u]+"a "+s+" "+signs()[u]+"b", "", false)
		}
		check(member(binary(o, a, b), "x"), "a "+s+" b.x", "(a "+s+" b).x", true)
		check(index(binary(o, a, b), c), "a "+s+" b[c]", "(a "+s+" b)[c]", true)
		check(index(c, binary(o, a, b)), "c[a "+s+" b]", "", false)
		check(call("f", binary(o, a, b), binary(o, b, c)), "f(a "+s+" b, b "+s+" c)", "", false)
		for _, p := range operators() {
			high, low, r := precedences()[o], precedences()[p], signs()[p]
			// The inner operator is o, and the outer one p.
			check(binary(p, binary(o, a, b), c), "a "+s+" b "+r+" c", "(a "+s+" b) "+r+" c", high < low || high == low && low == 4)
			check(binary(p, a, binary(o, b, c)), "a "+r+" b "+s+" c", "a "+r+" (b "+s+" c)", high <= low)
			checkExpr(t, binary(p, binary(o, a, b), binary(o, b, c)), inside(high < low || high == low && low == 4, "a "+s+" b")+" "+r+" "+inside(high <= low, "b "+s+" c"))
		}
	}
}

// TestP19_2Wrong prints expressions that the parser cannot produce.
func TestP19_2Wrong(t *testing.T) {
	a := name("a")
	for _, kind := range []api.ExprKind{math.MinInt, -9, -1, 0, 10, 11, 1<<32 + 1, math.MaxInt} {
		for args := range 4 {
			checkNoExpr(t, api.Expr{Kind: kind, Args: slices.Repeat([]api.Expr{a}, args)})
			checkNoExpr(t, api.Expr{Kind: kind, Name: "a", Args: slices.Repeat([]api.Expr{a}, args)})
		}
		checkNoExpr(t, api.Expr{Kind: kind, Op: api.OpAdd, Value: 1, Name: "a", Args: []api.Expr{a, a}})
	}
	good := []api.Expr{number(1), integer(1), boolean(1), a, unary(api.OpNegate, a), binary(api.OpAdd, a, a), call("f", a), member(a, "x"), index(a, a)}
	for i, e := range good {
		checkArgs(t, e, []int{0, 0, 0, 0, 1, 2, -1, 1, 2}[i])
		checkOperator(t, e)
		checkName(t, e)
		checkValue(t, e, []int{536870911, 2147483647, 1, 0, 0, 0, 0, 0, 0}[i])
	}
}

// checkArgs gives an expression other numbers of arguments; any number is right for a call.
func checkArgs(t *testing.T, e api.Expr, right int) {
	t.Helper()
	for count := range 6 {
		e.Args = slices.Repeat([]api.Expr{name("b")}, count)
		if _, code := Expr(e); (code == api.OK) != (count == right || right < 0) {
			t.Errorf("%+v has error %d", e, code)
		}
		if count != right && right >= 0 {
			checkNoExpr(t, e)
		}
	}
	if right == 0 {
		e.Args = []api.Expr{}
		if _, code := Expr(e); code != api.OK {
			t.Errorf("%+v with empty arguments has error %d", e, code)
		}
	}
}

// checkOperator gives an expression each operator, and numbers that are none.
func checkOperator(t *testing.T, e api.Expr) {
	t.Helper()
	for _, op := range append(operators(), api.OpNegate, api.OpNot, 0, -1, 19, 20, math.MinInt, math.MaxInt, 1<<32+1) {
		e.Op = op
		right := op == 0
		if e.Kind == api.BinaryExpr {
			right = op >= 1 && op <= 16
		} else if e.Kind == api.UnaryExpr {
			right = op == 17 || op == 18
		}
		if !right {
			checkNoExpr(t, e)
		} else if text, code := Expr(e); code != api.OK || !strings.Contains(text, signs()[op]) {
			t.Errorf("%+v is %q, %d", e, text, code)
		}
	}
}

// checkName gives an expression names, and texts that are none.
func checkName(t *testing.T, e api.Expr) {
	t.Helper()
	hasName := e.Kind == api.NameExpr || e.Kind == api.MemberExpr || e.Kind == api.CallExpr
	for _, name := range names() {
		e.Name = name
		if !hasName {
			checkNoExpr(t, e)
		} else if text, code := Expr(e); code != api.OK || !strings.Contains(text, name) {
			t.Errorf("%+v is %q, %d", e, text, code)
		}
	}
	for _, name := range noNames() {
		e.Name = name
		if hasName && !(e.Kind == api.CallExpr && slices.Contains(typeWords(), name)) || !hasName && name != "" {
			checkNoExpr(t, e)
		} else if _, code := Expr(e); code != api.OK {
			t.Errorf("%+v has error %d", e, code)
		}
	}
}

// checkValue gives an expression values, of which those up to a limit are right.
func checkValue(t *testing.T, e api.Expr, limit int) {
	t.Helper()
	for _, value := range []int{math.MinInt, -1 << 32, -2147483648, -536870911, -2, -1, 0, 1, 2, 3, 65536, 536870910, 536870911, 536870912, 2147483646, 2147483647, 2147483648, 1 << 32, 1<<32 + 1, math.MaxInt} {
		e.Value = value
		if value < 0 || value > limit {
			checkNoExpr(t, e)
		} else if want, ok := expectedExpr(e); !ok {
			t.Errorf("the test is wrong: %+v", e)
		} else {
			checkExpr(t, e, want)
		}
	}
}

// TestP19_2Long prints expressions that are deeper and larger than those of a module.
func TestP19_2Long(t *testing.T) {
	deep := name("a")
	for range 30000 {
		deep = unary(api.OpNegate, deep)
	}
	if text, code := Expr(deep); text != strings.Repeat("-", 30000)+"a" || code != api.OK {
		t.Errorf("a deep expression has %d bytes and error %d", len(text), code)
	}
	left, right := name("a"), name("a")
	for range 3000 {
		left, right = binary(api.OpSub, left, name("b")), binary(api.OpSub, name("b"), right)
	}
	if text, code := Expr(left); text != "a"+strings.Repeat(" - b", 3000) || code != api.OK {
		t.Errorf("a long difference has %d bytes and error %d", len(text), code)
	}
	if text, code := Expr(right); text != strings.Repeat("b - (", 2999)+"b - a"+strings.Repeat(")", 2999) || code != api.OK {
		t.Errorf("a deep difference has %d bytes and error %d", len(text), code)
	}
	wide := call("f", slices.Repeat([]api.Expr{integer(2147483647)}, 20000)...)
	if text, code := Expr(wide); text != "f("+strings.TrimSuffix(strings.Repeat("2147483647, ", 20000), ", ")+")" || code != api.OK {
		t.Errorf("a wide call has %d bytes and error %d", len(text), code)
	}
	wide.Args[19999].Value++
	checkNoExpr(t, wide)
}

// maker makes arbitrary trees.
type maker struct {
	state uint64
	// wrong is how many of 1000 expressions and statements are spoiled.
	wrong int
}

func (m *maker) next(beyond int) int {
	m.state = m.state*6364136223846793005 + 1442695040888963407
	return int(m.state>>33) % beyond
}

func (m *maker) name() string {
	return names()[m.next(len(names()))]
}

func (m *maker) typeOf() api.Type {
	if kind := api.TypeKind(1 + m.next(8)); kind < api.StructType {
		return api.Type{Kind: kind}
	}
	return structType(m.name())
}

func (m *maker) expr(depth int) api.Expr {
	kinds := 9
	if depth <= 1 {
		kinds = 4
	}
	e := api.Expr{Kind: api.ExprKind(1 + m.next(kinds))}
	switch e.Kind {
	case api.NumberExpr:
		e.Value = m.next(api.MaxValue + 1)
	case api.IntExpr:
		e.Value = m.next(1 << 31)
	case api.BoolExpr:
		e.Value = m.next(2)
	case api.NameExpr:
		e.Name = m.name()
	case api.UnaryExpr:
		e = unary(api.Operator(17+m.next(2)), m.expr(depth-1))
	case api.BinaryExpr:
		e = binary(api.Operator(1+m.next(16)), m.expr(depth-1), m.expr(depth-1))
	case api.CallExpr:
		e.Name = append(names(), typeWords()...)[m.next(len(names())+7)]
		for range m.next(4) {
			e.Args = append(e.Args, m.expr(depth-1))
		}
	case api.MemberExpr:
		e = member(m.expr(depth-1), m.name())
	case api.IndexExpr:
		e = index(m.expr(depth-1), m.expr(depth-1))
	}
	if m.next(1000) < m.wrong {
		m.spoil(&e)
	}
	return e
}

// spoil changes a field of an expression, mostly so that it cannot be printed.
func (m *maker) spoil(e *api.Expr) {
	switch m.next(5) {
	case 0:
		e.Kind = api.ExprKind(m.next(11))
	case 1:
		e.Op = api.Operator(m.next(20))
	case 2:
		e.Name = append(noNames(), names()...)[m.next(len(noNames())+len(names()))]
	case 3:
		e.Value = []int{-1, 0, 1, 2, 536870911, 536870912, 2147483647, 2147483648}[m.next(8)]
	case 4:
		e.Args = slices.Repeat([]api.Expr{name("a")}, m.next(4))
	}
}

// TestP19_2Arbitrary prints arbitrary expressions, and parses their texts.
func TestP19_2Arbitrary(t *testing.T) {
	m := maker{state: 1}
	for range 20000 {
		e := m.expr(5)
		want, ok := expectedExpr(e)
		if !ok {
			t.Fatalf("the test is wrong: %+v", e)
		}
		checkExpr(t, e, want)
		if read, line, code := parser.ParseExpr(want); parser.ExprNodes(e) <= 1000 && (code != api.OK || !same(read, e)) {
			t.Errorf("the text %q of %+v is read as %+v, line %d, error %d", want, e, read, line, code)
		}
	}
	m.wrong = 100
	for range 20000 {
		e := m.expr(4)
		want, ok := expectedExpr(e)
		if text, code := Expr(e); text != want || (code == api.OK) != ok || !ok && code != api.ErrArgument {
			t.Errorf("the text of %+v is %q, %d, want %q", e, text, code, want)
		}
	}
}
