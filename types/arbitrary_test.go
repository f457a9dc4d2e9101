package types

import (
	"fmt"
	"slices"
	"strings"
	"testing"

	"frustum/api"
)

// generator makes arbitrary modules, mostly with the right types.
type generator struct {
	state uint64
	// wrong is how many of 1000 parts are spoiled.
	wrong   int
	m       api.Module
	scope   []api.Field
	inMain  bool
	loops   int
	counter int
}

func (g *generator) next(beyond int) int {
	g.state = g.state*6364136223846793005 + 1442695040888963407
	return int(g.state>>33) % beyond
}

func (g *generator) spoils() bool {
	return g.next(1000) < g.wrong
}

// name returns a new name, or seldom a used or an invalid one.
func (g *generator) name(prefix string) string {
	g.counter++
	if g.spoils() {
		return []string{"u0", "f2", "t3", "min", "if", "", "a b", "position", "v1", "v2", "v3", "S1", "o4", "i5"}[g.next(14)]
	}
	return fmt.Sprintf("%s%d", prefix, g.counter)
}

func (g *generator) typeOf() api.Type {
	if g.spoils() {
		return []api.Type{{}, {Kind: 9}, structType("X"), {Kind: 1, Name: "x"}}[g.next(4)]
	}
	if g.next(5) == 0 && len(g.m.Structs) > 0 {
		return structType(g.m.Structs[g.next(len(g.m.Structs))].Name)
	}
	return simpleTypes()[g.next(7)]
}

func (g *generator) fields(prefix string, most int) []api.Field {
	var fields []api.Field
	for range g.next(most + 1) {
		fields = append(fields, field(g.name(prefix), g.typeOf()))
	}
	return fields
}

// visible returns the variables that an expression can use.
func (g *generator) visible() []api.Field {
	all := slices.Concat(g.scope, g.m.Uniforms, g.m.Inputs)
	if g.inMain {
		all = append(all, g.m.Outputs...)
	}
	return all
}

// namesOf returns the names of fields with a type.
func namesOf(fields []api.Field, t api.Type) []string {
	var names []string
	for _, f := range fields {
		if f.Type == t {
			names = append(names, f.Name)
		}
	}
	return names
}

// leaf returns an expression of a type without much in it.
func (g *generator) leaf(t api.Type) api.Expr {
	if names := namesOf(g.visible(), t); len(names) > 0 && g.next(4) > 0 {
		return name(names[g.next(len(names))])
	}
	switch t {
	case fixedType:
		return number(g.next(536870912))
	case halfType:
		return call("half", number(g.next(65536)))
	case intType:
		return integer(g.next(1 << 31))
	case boolType:
		return boolean(g.next(2))
	case vec2Type, vec3Type, vec4Type:
		return call(wordOf(t), slices.Repeat([]api.Expr{number(g.next(65536))}, int(t.Kind)-3)...)
	}
	e := call(t.Name)
	if i := FindStruct(g.m, t.Name); i >= 0 {
		for _, f := range g.m.Structs[i].Fields {
			if f.Type.Kind == api.StructType && f.Type.Name >= t.Name {
				return e
			}
			e.Args = append(e.Args, g.leaf(f.Type))
		}
	}
	return e
}

// expr returns an expression of a type.
func (g *generator) expr(t api.Type, depth int) api.Expr {
	if g.spoils() {
		return g.spoiled(depth)
	}
	if depth <= 1 || g.next(4) == 0 {
		return g.leaf(t)
	}
	if calls := g.calls(t); len(calls) > 0 && g.next(3) == 0 {
		f := calls[g.next(len(calls))]
		e := call(f.Name)
		for _, p := range f.Params {
			e.Args = append(e.Args, g.expr(p.Type, depth-1))
		}
		return e
	}
	inner := func(t api.Type) api.Expr { return g.expr(t, depth-1) }
	isNumber := slices.Contains(numberWords(), wordOf(t))
	switch choice := g.next(12); {
	case isNumber && choice < 2:
		return binary(api.Operator(1+g.next(4)), inner(t), inner(t))
	case isNumber && choice == 2:
		return unary(api.OpNegate, inner(t))
	case isNumber && choice == 3:
		return call([]string{"min", "max"}[g.next(2)], inner(t), inner(t))
	case isNumber && choice == 4:
		return call("clamp", inner(t), inner(t), inner(t))
	case isNumber && choice == 5:
		return call("abs", inner(t))
	}
	switch t {
	case fixedType:
		return g.fixedExpr(inner)
	case halfType:
		return call("half", inner(fixedType))
	case intType:
		return g.intExpr(inner)
	case boolType:
		return g.boolExpr(inner)
	case vec2Type, vec3Type, vec4Type:
		return g.vectorExpr(t, inner)
	}
	return g.leaf(t)
}

func (g *generator) calls(t api.Type) []api.Function {
	var found []api.Function
	for _, f := range g.m.Functions {
		if f.Result == t {
			found = append(found, f)
		}
	}
	return found
}

func (g *generator) vector() api.Type {
	return []api.Type{vec2Type, vec3Type, vec4Type}[g.next(3)]
}

func (g *generator) fixedExpr(inner func(api.Type) api.Expr) api.Expr {
	v := g.vector()
	switch g.next(7) {
	case 0:
		return call([]string{"floor", "fract", "sqrt"}[g.next(3)], inner(fixedType))
	case 1:
		return call("dot", inner(v), inner(v))
	case 2:
		return member(inner(v), []string{"x", "y"}[g.next(2)])
	case 3:
		return index(inner(v), inner(intType))
	case 4:
		return call("fixed", inner([]api.Type{intType, halfType, boolType}[g.next(3)]))
	case 5:
		return call("mix", inner(fixedType), inner(fixedType), inner(fixedType))
	}
	for _, f := range g.visible() {
		if i := FindStruct(g.m, f.Type.Name); f.Type.Kind == api.StructType && i >= 0 {
			if names := namesOf(g.m.Structs[i].Fields, fixedType); len(names) > 0 {
				return member(name(f.Name), names[0])
			}
		}
	}
	return g.derivative(fixedType, inner)
}

// derivative returns one of an input of a type, if there is one.
func (g *generator) derivative(t api.Type, inner func(api.Type) api.Expr) api.Expr {
	names := namesOf(g.m.Inputs, t)
	if len(names) == 0 || g.m.Stage != api.FragmentStage && !g.spoils() {
		return inner(t)
	}
	return call([]string{"ddx", "ddy"}[g.next(2)], name(names[g.next(len(names))]))
}

func (g *generator) intExpr(inner func(api.Type) api.Expr) api.Expr {
	switch g.next(5) {
	case 0:
		return binary([]api.Operator{api.OpMod, api.OpShiftLeft, api.OpShiftRight, api.OpAnd, api.OpOr, api.OpXor}[g.next(6)], inner(intType), inner(intType))
	case 1:
		return unary(api.OpNot, inner(intType))
	case 2:
		return call("int", inner([]api.Type{fixedType, boolType}[g.next(2)]))
	}
	if len(g.m.Buffers) > 0 {
		return call("load", name(g.m.Buffers[g.next(len(g.m.Buffers))]), inner(intType))
	}
	return inner(intType)
}

func (g *generator) boolExpr(inner func(api.Type) api.Expr) api.Expr {
	switch g.next(5) {
	case 0:
		t := []api.Type{fixedType, halfType, intType}[g.next(3)]
		return binary(api.Operator(11+g.next(4)), inner(t), inner(t))
	case 1:
		t := simpleTypes()[g.next(7)]
		return binary(api.Operator(15+g.next(2)), inner(t), inner(t))
	case 2:
		return binary(api.Operator(6+g.next(3)), inner(boolType), inner(boolType))
	case 3:
		return call("bool", inner(intType))
	}
	return unary(api.OpNot, inner(boolType))
}

func (g *generator) vectorExpr(t api.Type, inner func(api.Type) api.Expr) api.Expr {
	size := int(t.Kind) - 3
	switch g.next(6) {
	case 0:
		return binary(api.Operator(3+g.next(2)), inner(t), inner(fixedType))
	case 1:
		return call("mix", inner(t), inner(t), inner(fixedType))
	case 2:
		e := call(wordOf(t))
		for left := size; left > 0; {
			part := 1 + g.next(left)
			if part == 1 {
				e.Args = append(e.Args, inner(fixedType))
			} else {
				e.Args = append(e.Args, inner(api.Type{Kind: api.TypeKind(part + 3)}))
			}
			left -= part
		}
		return e
	case 3:
		if size == 4 && len(g.m.Textures) > 0 {
			texture := name(g.m.Textures[g.next(len(g.m.Textures))])
			if g.next(2) == 0 {
				return call("sample", texture, inner(vec2Type), inner(fixedType))
			}
			return call("fetch", texture, inner(intType), inner(intType), inner(intType))
		}
	case 4:
		return g.derivative(t, inner)
	}
	return g.leaf(t)
}

// spoiled returns an arbitrary expression, mostly with an error.
func (g *generator) spoiled(depth int) api.Expr {
	inner := func() api.Expr {
		if depth <= 1 {
			return g.leaf(simpleTypes()[g.next(7)])
		}
		return g.expr(g.typeOf(), depth-1)
	}
	e := inner()
	switch g.next(9) {
	case 0:
		e.Kind = api.ExprKind(g.next(11))
	case 1:
		e.Op = api.Operator(g.next(20))
	case 2:
		e.Name = []string{"x", "min", "load", "u0", "v1", "S1", "f1", "vec3", "ddx", ""}[g.next(10)]
	case 3:
		return []api.Expr{number(-1), number(1 << 29), integer(1 << 31), boolean(2)}[g.next(4)]
	case 4:
		e.Args = append(slices.Clone(e.Args), inner())
	case 5:
		e.Args = e.Args[:max(0, len(e.Args)-1)]
	case 6:
		return binary(api.Operator(g.next(20)), inner(), inner())
	case 7:
		return call([]string{"min", "load", "sample", "fetch", "ddx", "vec2", "fixed", "S1", "mix", "dot"}[g.next(10)], inner(), inner())
	}
	return e
}

// target returns a target with its type.
func (g *generator) target(depth int) (api.Expr, api.Type) {
	var choices []api.Field
	for _, f := range g.visible() {
		if _, input := firstField(slices.Concat(g.m.Inputs, g.m.Uniforms), f.Name); !input && !strings.HasPrefix(f.Name, "p") || g.spoils() {
			choices = append(choices, f)
		}
	}
	if len(choices) == 0 {
		return g.spoiled(depth), intType
	}
	f := choices[g.next(len(choices))]
	e, t := name(f.Name), f.Type
	if i := FindStruct(g.m, t.Name); t.Kind == api.StructType && i >= 0 && len(g.m.Structs[i].Fields) > 0 && g.next(2) == 0 {
		inner := g.m.Structs[i].Fields[g.next(len(g.m.Structs[i].Fields))]
		e, t = member(e, inner.Name), inner.Type
	}
	if IsVector(t) && g.next(2) == 0 {
		if g.next(2) == 0 {
			return member(e, "y"), fixedType
		}
		return index(e, g.expr(intType, depth-1)), fixedType
	}
	return e, t
}

func (g *generator) block(depth, most int) []api.Stmt {
	outside := len(g.scope)
	block := g.stmts(depth, most)
	g.scope = g.scope[:outside:outside]
	return block
}

func (g *generator) stmts(depth, most int) []api.Stmt {
	var block []api.Stmt
	for range g.next(most + 1) {
		s := g.stmt(depth, most)
		if g.spoils() {
			s.Kind = api.StmtKind(g.next(11))
		}
		block = append(block, s)
	}
	return block
}

func (g *generator) stmt(depth, most int) api.Stmt {
	switch choice := g.next(10); {
	case choice < 3 || most <= 1:
		t := g.typeOf()
		s := api.Stmt{Kind: api.LetStmt, Name: g.name("v"), Type: t, Value: g.expr(t, depth)}
		g.scope = append(g.scope, field(s.Name, t))
		return s
	case choice < 6:
		target, t := g.target(depth)
		return api.Stmt{Kind: api.AssignStmt, Target: target, Value: g.expr(t, depth)}
	case choice < 8:
		return api.Stmt{Kind: api.IfStmt, Value: g.expr(boolType, depth), Body: g.block(depth, most-1), Else: g.block(depth, most-1)}
	case choice == 8 && (g.inMain && g.loops < 3 || g.spoils()):
		g.loops++
		s := api.Stmt{Kind: api.LoopStmt, Count: 1 + g.next(16), Body: g.block(depth, most-1)}
		g.loops--
		return s
	case g.loops > 0 || g.spoils():
		return api.Stmt{Kind: api.StmtKind(5 + g.next(2))}
	}
	switch {
	case g.inMain && g.m.Stage == api.FragmentStage:
		return api.Stmt{Kind: api.DiscardStmt}
	case g.inMain && g.m.Stage == api.GeometryStage:
		return api.Stmt{Kind: api.StmtKind(8 + g.next(2))}
	}
	return api.Stmt{Kind: api.IfStmt, Value: boolean(1)}
}

func (g *generator) module() api.Module {
	g.m, g.scope, g.inMain, g.loops, g.counter = api.Module{Stage: api.Stage(1 + g.next(3))}, nil, false, 0, 0
	for range g.next(4) {
		s := api.Struct{Name: g.name("S"), Fields: append(g.fields("x", 3), field("last", simpleTypes()[g.next(7)]))}
		g.m.Structs = append(g.m.Structs, s)
	}
	g.m.Uniforms, g.m.Inputs, g.m.Outputs = g.fields("u", 3), g.fields("i", 3), g.fields("o", 3)
	for range g.next(3) {
		g.m.Textures = append(g.m.Textures, g.name("t"))
	}
	for range g.next(3) {
		g.m.Buffers = append(g.m.Buffers, g.name("b"))
	}
	for range g.next(4) {
		f := api.Function{Name: g.name("f"), Params: g.fields("p", 3), Result: g.typeOf()}
		g.scope = slices.Clone(f.Params)
		f.Body = g.stmts(3, 2)
		f.Return = g.expr(f.Result, 3)
		g.m.Functions = append(g.m.Functions, f)
	}
	g.scope, g.inMain = nil, true
	g.m.Main = g.stmts(3, 3)
	if g.spoils() {
		g.m.Stage = api.Stage(g.next(5))
	}
	if g.spoils() {
		g.m.Textures = append(g.m.Textures, "t10", "t11", "t12", "t13", "t14")
	}
	if g.spoils() {
		g.m.Main = append(g.m.Main, slices.Repeat([]api.Stmt{{Kind: api.IfStmt, Value: boolean(1)}}, 200+g.next(400))...)
	}
	return g.m
}

// TestP20_3Arbitrary compares Check with the oracle of the tests, and Weight with inlining, for arbitrary modules, of which some have errors.
func TestP20_3Arbitrary(t *testing.T) {
	counts := map[api.Errno]int{}
	for _, wrong := range []int{0, 3, 10, 30} {
		g := generator{state: uint64(wrong), wrong: wrong}
		for range 3000 {
			m := g.module()
			want := expectedCheck(m)
			if got := Check(m); got != want {
				t.Fatalf("the error is %d, want %d:\n%+v", got, want, m)
			}
			if got, want := Weight(m), expectedWeight(m); got != want {
				t.Fatalf("the weight is %d, want %d:\n%+v", got, want, m)
			}
			counts[want]++
		}
	}
	for _, code := range []api.Errno{api.OK, api.ErrKind, api.ErrTooLong, api.ErrName, api.ErrCount, api.ErrType, api.ErrRange} {
		if counts[code] < 20 {
			t.Errorf("only %d of the modules have error %d: %v", counts[code], code, counts)
		}
	}
}

// TestP20_2Arbitrary compares ExprType with the oracle of the tests for arbitrary expressions.
func TestP20_2Arbitrary(t *testing.T) {
	g := generator{state: 5}
	counts := map[api.Errno]int{}
	for range 300 {
		g.wrong = 0
		m := g.module()
		g.scope = g.fields("v", 6)
		for range 50 {
			g.wrong = 50 * g.next(4)
			e := g.expr(g.typeOf(), 5)
			want, wantCode := expectedType(m, g.scope, e)
			if got, code := ExprType(m, g.scope, e); got != want || code != wantCode {
				t.Fatalf("the type of %s is %s, error %d, want %s, error %d", shown(e), wordOf(got), code, wordOf(want), wantCode)
			}
			counts[wantCode]++
		}
	}
	for _, code := range []api.Errno{api.OK, api.ErrKind, api.ErrName, api.ErrCount, api.ErrType, api.ErrRange} {
		if counts[code] < 100 {
			t.Errorf("only %d of the expressions have error %d: %v", counts[code], code, counts)
		}
	}
}
