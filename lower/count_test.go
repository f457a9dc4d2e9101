package lower_test

import (
	"slices"
	"strings"
	"testing"

	"frustum/api"
	"frustum/isa"
	"frustum/lower"
	"frustum/parser"
)

func TestP23_3Nesting(t *testing.T) {
	for text, want := range map[string][2]int{
		"": {0, 0}, "1": {0, 0}, "if": {1, 0}, "ief": {1, 0}, "i1e2f": {1, 0}, "lo": {1, 1}, "l1o": {1, 1}, "ifif": {1, 0}, "ifloif": {1, 1}, "ilof": {2, 1}, "lifo": {2, 1}, "liefo": {2, 1}, "ielof": {2, 1}, "iiff": {2, 0}, "lloo": {2, 2}, "lllooo": {3, 3}, "lmnooolo": {3, 3},
		"ilimofof": {4, 2}, "iiiifefff": {4, 0}, "iiiiffff": {4, 0}, "iiiiffffllooif": {4, 2}, "lloiiifffo": {4, 2}, "iflolo": {1, 1}, "lblcoo": {2, 2}, "iiilofffilloof": {4, 2},
		"i": {0, 0}, "o": {0, 0}, "iff": {0, 0}, "io": {0, 0}, "iilof": {0, 0}, "llllo": {0, 0}, "ilfo": {0, 0},
		strings.Repeat("i", 100) + strings.Repeat("f", 100): {100, 0}, strings.Repeat("ie", 30) + "lo" + strings.Repeat("f", 30): {31, 1}, strings.Repeat("if", 100): {1, 0},
	} {
		p := constructs(1, text)
		if all, loops := lower.Nesting(p); all != want[0] || loops != want[1] {
			t.Errorf("the nesting of %s is %d and %d, want %v", text, all, loops, want)
		}
	}
	for _, p := range wrongPrograms() {
		if all, loops := lower.Nesting(p); all != 0 || loops != 0 {
			t.Errorf("the nesting of a program with an error is %d and %d", all, loops)
		}
	}
	// Each combination of constructs in one another.
	for _, text := range combinations("il", 5) {
		closing := ""
		for _, letter := range text {
			closing = map[rune]string{'i': "f", 'l': "o"}[letter] + closing
		}
		p := constructs(2, text+closing)
		loops := strings.Count(text, "l")
		wantAll, wantLoops := len(text), loops
		if loops > 3 {
			wantAll, wantLoops = 0, 0
		}
		if all, loops := lower.Nesting(p); all != wantAll || loops != wantLoops {
			t.Errorf("the nesting of %s is %d and %d, want %d and %d", text, all, loops, wantAll, wantLoops)
		}
	}
}

// combinations returns all texts of up to length letters.
func combinations(letters string, length int) []string {
	all := []string{""}
	for i := 0; i < len(all); i++ {
		if len(all[i]) < length {
			for _, letter := range letters {
				all = append(all, all[i]+string(letter))
			}
		}
	}
	return all
}

// depths counts the constructs that are open at an instruction, by searching its ends.
func depths(code []api.Instr, at int) (int, int) {
	all, loops := 0, 0
	for begin := range at + 1 {
		if op := code[begin].Op; op == api.If || op == api.Loop {
			if length, _ := part(code[begin:]); begin+length > at {
				all++
				if op == api.Loop {
					loops++
				}
			}
		}
	}
	return all, loops
}

func TestP23_3NestingArbitrary(t *testing.T) {
	s := state(9)
	seen := map[[2]int]bool{}
	for range 500 {
		p := s.program()
		code := slices.Clone(p.Code)
		most := [2]int{}
		for at := range p.Code {
			all, loops := depths(p.Code, at)
			most[0], most[1] = max(most[0], all), max(most[1], loops)
		}
		if all, loops := lower.Nesting(p); all != most[0] || loops != most[1] {
			t.Errorf("the nesting is %d and %d, want %v:\n%s", all, loops, most, isa.Format(p))
		}
		if !slices.Equal(code, p.Code) {
			t.Error("Nesting changed the program")
		}
		seen[most] = true
	}
	if len(seen) < 8 {
		t.Errorf("the programs have only the nestings %v", seen)
	}
}

func checkCalls(t *testing.T, what string, m api.Module, want int) {
	t.Helper()
	if got := lower.Calls(m); got != want {
		t.Errorf("%s has %d calls, want %d", what, got, want)
	}
}

func TestP23_3Calls(t *testing.T) {
	const functions = "shader fragment; struct S { a: int; } in i: fixed; out o: int; fn f() -> int { return 1; } fn g(a: int) -> int { return a; } "
	for text, want := range map[string]int{
		"": 0, "o = 1;": 0, "o = f();": 1, "o = g(f());": 2, "o = f() + g(g(f()) * f());": 5, "let a: int = f();": 1, "let a: int = g(g(g(1)));": 3, "v[f()] = g(1);": 2, "v[g(f())].x = 1;": 2, "f().x = 1;": 1, "if (bool(f())) { }": 1, "if (true) { o = f(); } else { o = g(f()); }": 3, "loop 3 { o = f(); loop 2 { o = g(1); } }": 2, "if (true) { if (true) { if (f() == g(2)) { o = f(); } } }": 3,
		// Names that no function has.
		"o = min(1, 2);": 0, "o = int(1.0);": 0, "o = h(1);": 0, "let a: S = S(1);": 0, "o = S(f());": 1, "o = f;": 0, "o = ddx(f());": 1, "o = unknown(f(), g(1), x());": 2, "o = -f();": 1, "o = f().x;": 1, "o = v[f()];": 1, "o = f()[f()];": 2, "emit; discard; cut; break; continue;": 0,
	} {
		m := parse(t, functions+"main { "+text+" }")
		checkCalls(t, text, m, want)
		// The same statements in a function, and in two of them.
		m.Functions = append(m.Functions, api.Function{Name: "x_", Body: m.Main})
		checkCalls(t, text+" in Main and a function", m, 2*want)
		m.Main = nil
		checkCalls(t, text+" in a function", m, want)
	}
	for text, want := range map[string]int{"1": 0, "f()": 1, "g(f()) + f()": 3, "h()": 0, "min(f(), g(1))": 2} {
		e, _, _ := parser.ParseExpr(text)
		m := parse(t, functions+"main { o = f(); }")
		m.Functions = append(m.Functions, api.Function{Name: "x_", Return: e})
		checkCalls(t, "Return "+text, m, want+1)
	}
}

// TestP23_3CallsFields has calls in each field of statements of each kind.
func TestP23_3CallsFields(t *testing.T) {
	f := api.Expr{Kind: api.CallExpr, Name: "f"}
	m := api.Module{Functions: []api.Function{{Name: "f"}}}
	inner := api.Stmt{Kind: api.LetStmt, Value: f}
	for kind := api.StmtKind(-1); kind <= 11; kind++ {
		target, value := 0, 0
		if kind == api.AssignStmt {
			target = 1
		}
		if kind == api.LetStmt || kind == api.AssignStmt || kind == api.IfStmt {
			value = 1
		}
		for what, c := range map[string]struct {
			s    api.Stmt
			want int
		}{
			"Target": {api.Stmt{Target: f}, target}, "Value": {api.Stmt{Value: f}, value}, "Body": {api.Stmt{Body: []api.Stmt{inner}}, 1}, "Else": {api.Stmt{Else: []api.Stmt{inner, inner}}, 2}, "nothing": {api.Stmt{Name: "f", Type: api.Type{Name: "f"}}, 0}, "everything": {api.Stmt{Target: f, Value: f, Body: []api.Stmt{inner}, Else: []api.Stmt{inner, {Kind: api.LoopStmt, Else: []api.Stmt{inner}}}}, target + value + 3},
		} {
			c.s.Kind = kind
			m.Main = []api.Stmt{c.s, c.s}
			checkCalls(t, what, m, 2*c.want)
			m.Functions[0].Body = m.Main
			checkCalls(t, what, m, 4*c.want)
			m.Functions[0].Body = nil
		}
	}
}

// TestP23_3CallsExpressions has expressions of each kind, which may have arguments of any number.
func TestP23_3CallsExpressions(t *testing.T) {
	f := api.Expr{Kind: api.CallExpr, Name: "f"}
	m := api.Module{Structs: []api.Struct{{Name: "f"}}, Functions: []api.Function{{Name: "f"}, {Name: "min"}, {Name: "f"}, {Name: ""}}}
	for kind := api.ExprKind(-1); kind <= 11; kind++ {
		for name, isFunction := range map[string]int{"f": 1, "min": 1, "": 1, "g": 0, "max": 0, "F": 0} {
			for count := range 4 {
				want := count
				if kind == api.CallExpr {
					want += isFunction
				}
				e := api.Expr{Kind: kind, Name: name, Args: slices.Repeat([]api.Expr{f}, count)}
				m.Main = []api.Stmt{{Kind: api.IfStmt, Value: e}}
				checkCalls(t, name, m, want)
				m.Main[0].Value = api.Expr{Kind: api.MemberExpr, Name: "f", Args: []api.Expr{e, e}}
				checkCalls(t, name, m, 2*want)
			}
		}
	}
	checkCalls(t, "an empty module", api.Module{}, 0)
	m.Functions = nil
	checkCalls(t, "a module without functions", m, 0)
	// Deep and long modules.
	deep := f
	s := api.Stmt{Kind: api.LetStmt, Value: f}
	for range 20000 {
		deep = api.Expr{Kind: api.CallExpr, Name: "f", Args: []api.Expr{deep}}
		s = api.Stmt{Kind: api.IfStmt, Value: f, Body: []api.Stmt{s}}
	}
	m.Functions = []api.Function{{Name: "f", Return: deep}}
	m.Main = []api.Stmt{s}
	checkCalls(t, "a deep module", m, 20001+20001)
}
