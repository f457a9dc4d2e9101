package lower_test

import (
	"fmt"
	"slices"
	"strings"

	"frustum/api"
	"frustum/types"
)

// The types of the shading language.
var (
	fixedType = api.Type{Kind: api.FixedType}
	halfType  = api.Type{Kind: api.HalfType}
	intType   = api.Type{Kind: api.IntType}
	boolType  = api.Type{Kind: api.BoolType}
	vec2Type  = api.Type{Kind: api.Vec2Type}
	vec3Type  = api.Type{Kind: api.Vec3Type}
	vec4Type  = api.Type{Kind: api.Vec4Type}
)

// simpleTypes are all types but structs.
func simpleTypes() []api.Type {
	return []api.Type{fixedType, halfType, intType, boolType, vec2Type, vec3Type, vec4Type}
}

// word returns the name of a type.
func word(t api.Type) string {
	if t.Kind == api.StructType {
		return t.Name
	}
	return []string{"", "fixed", "half", "int", "bool", "vec2", "vec3", "vec4"}[t.Kind]
}

func name(name string) api.Expr {
	return api.Expr{Kind: api.NameExpr, Name: name}
}

func call(name string, args ...api.Expr) api.Expr {
	return api.Expr{Kind: api.CallExpr, Name: name, Args: args}
}

func binary(op int, a, b api.Expr) api.Expr {
	return api.Expr{Kind: api.BinaryExpr, Op: api.Operator(op), Args: []api.Expr{a, b}}
}

func unary(op api.Operator, a api.Expr) api.Expr {
	return api.Expr{Kind: api.UnaryExpr, Op: op, Args: []api.Expr{a}}
}

// writer makes arbitrary modules that mostly pass types.Check.
type writer struct {
	state
	m       api.Module
	scope   []api.Field
	inMain  bool
	loops   int
	counter int
}

// fields returns up to most fields with new names.
func (w *writer) fields(prefix string, most int) []api.Field {
	var fields []api.Field
	for range w.next(most + 1) {
		w.counter++
		fields = append(fields, api.Field{Name: fmt.Sprintf("%s%d", prefix, w.counter), Type: w.typeOf()})
	}
	return fields
}

func (w *writer) typeOf() api.Type {
	if w.next(5) == 0 && len(w.m.Structs) > 0 {
		return api.Type{Kind: api.StructType, Name: w.m.Structs[w.next(len(w.m.Structs))].Name}
	}
	return simpleTypes()[w.next(7)]
}

// visible returns the variables that an expression can use.
func (w *writer) visible() []api.Field {
	all := slices.Concat(w.scope, w.m.Uniforms, w.m.Inputs)
	if w.inMain {
		all = append(all, w.m.Outputs...)
	}
	return all
}

// leaf returns an expression of a type without much in it.
func (w *writer) leaf(t api.Type) api.Expr {
	var names []string
	for _, f := range w.visible() {
		if f.Type == t {
			names = append(names, f.Name)
		}
	}
	if len(names) > 0 && w.next(4) > 0 {
		return name(names[w.next(len(names))])
	}
	number := api.Expr{Kind: api.NumberExpr, Value: min(max(0, w.number()), maxValue)}
	switch t {
	case fixedType:
		return number
	case halfType:
		return call("half", number)
	case intType:
		return api.Expr{Kind: api.IntExpr, Value: min(max(0, w.number()), high)}
	case boolType:
		return api.Expr{Kind: api.BoolExpr, Value: w.next(2)}
	case vec2Type, vec3Type, vec4Type:
		var args []api.Expr
		for range types.Components(w.m, t) {
			args = append(args, w.leaf(fixedType))
		}
		return call(word(t), args...)
	}
	e := call(t.Name)
	for _, f := range w.m.Structs[types.FindStruct(w.m, t.Name)].Fields {
		e.Args = append(e.Args, w.leaf(f.Type))
	}
	return e
}

// expr returns an expression of a type.
func (w *writer) expr(t api.Type, depth int) api.Expr {
	if depth <= 1 || w.next(5) == 0 {
		return w.leaf(t)
	}
	inner := func(t api.Type) api.Expr { return w.expr(t, depth-1) }
	for _, f := range w.m.Functions {
		if f.Result == t && w.next(4) == 0 {
			e := call(f.Name)
			for _, p := range f.Params {
				e.Args = append(e.Args, inner(p.Type))
			}
			return e
		}
	}
	if t != boolType && t.Kind != api.StructType {
		switch w.next(12) {
		case 0, 1, 2:
			return binary(1+w.next(4), inner(t), inner(t))
		case 3:
			return unary(api.OpNegate, inner(t))
		case 4:
			return call([]string{"min", "max"}[w.next(2)], inner(t), inner(t))
		case 5:
			return call("clamp", inner(t), inner(t), inner(t))
		case 6:
			return call("abs", inner(t))
		}
	}
	switch t {
	case fixedType:
		return w.fixed(inner)
	case halfType:
		return call("half", inner(fixedType))
	case intType:
		return w.int(inner)
	case boolType:
		return w.bool(inner)
	case vec2Type, vec3Type, vec4Type:
		return w.vector(t, inner)
	}
	return w.leaf(t)
}

func (w *writer) fixed(inner func(api.Type) api.Expr) api.Expr {
	v := []api.Type{vec2Type, vec3Type, vec4Type}[w.next(3)]
	switch w.next(7) {
	case 0:
		return call([]string{"floor", "fract", "sqrt"}[w.next(3)], inner(fixedType))
	case 1:
		return call("dot", inner(v), inner(v))
	case 2:
		return api.Expr{Kind: api.MemberExpr, Name: "xyzw"[w.next(types.Components(w.m, v)):][:1], Args: []api.Expr{inner(v)}}
	case 3:
		return api.Expr{Kind: api.IndexExpr, Args: []api.Expr{inner(v), w.index(inner)}}
	case 4:
		return call("fixed", inner([]api.Type{intType, halfType, boolType}[w.next(3)]))
	case 5:
		return call("mix", inner(fixedType), inner(fixedType), inner(fixedType))
	}
	return w.derivative(fixedType, inner)
}

// index returns an index, mostly one that is near those of components.
func (w *writer) index(inner func(api.Type) api.Expr) api.Expr {
	if w.next(3) == 0 {
		return inner(intType)
	}
	return binary(int(api.OpSub), binary(int(api.OpAnd), inner(intType), api.Expr{Kind: api.IntExpr, Value: 3}), api.Expr{Kind: api.IntExpr, Value: w.next(2)})
}

// derivative returns a member of a struct, or a derivative, if there is one of a type.
func (w *writer) derivative(t api.Type, inner func(api.Type) api.Expr) api.Expr {
	for _, f := range w.visible() {
		if s := types.FindStruct(w.m, f.Type.Name); s >= 0 && w.next(2) == 0 {
			for _, field := range w.m.Structs[s].Fields {
				if field.Type == t {
					return api.Expr{Kind: api.MemberExpr, Name: field.Name, Args: []api.Expr{inner(f.Type)}}
				}
			}
		}
	}
	for _, f := range w.m.Inputs {
		if f.Type == t && w.m.Stage == api.FragmentStage {
			return call([]string{"ddx", "ddy"}[w.next(2)], name(f.Name))
		}
	}
	return inner(t)
}

func (w *writer) int(inner func(api.Type) api.Expr) api.Expr {
	switch w.next(5) {
	case 0, 1:
		return binary([]int{5, 6, 7, 8, 9, 10}[w.next(6)], inner(intType), inner(intType))
	case 2:
		return unary(api.OpNot, inner(intType))
	case 3:
		return call("int", inner([]api.Type{fixedType, boolType}[w.next(2)]))
	}
	if len(w.m.Buffers) > 0 {
		return call("load", name(w.m.Buffers[w.next(len(w.m.Buffers))]), inner(intType))
	}
	return inner(intType)
}

func (w *writer) bool(inner func(api.Type) api.Expr) api.Expr {
	switch w.next(6) {
	case 0, 1:
		t := []api.Type{fixedType, halfType, intType}[w.next(3)]
		return binary(11+w.next(4), inner(t), inner(t))
	case 2:
		t := simpleTypes()[w.next(7)]
		a, b := inner(t), inner(t)
		if w.next(3) == 0 {
			b = a
		}
		return binary(15+w.next(2), a, b)
	case 3:
		return binary(6+w.next(3), inner(boolType), inner(boolType))
	case 4:
		return call("bool", inner(intType))
	}
	return unary(api.OpNot, inner(boolType))
}

func (w *writer) vector(t api.Type, inner func(api.Type) api.Expr) api.Expr {
	size := types.Components(w.m, t)
	switch w.next(6) {
	case 0:
		return binary(3+w.next(2), inner(t), inner(fixedType))
	case 1:
		return call("mix", inner(t), inner(t), inner(fixedType))
	case 2:
		e := call(word(t))
		for left := size; left > 0; {
			part := 1 + w.next(left)
			kind := api.FixedType
			if part > 1 {
				kind = api.TypeKind(part + 3)
			}
			e.Args = append(e.Args, inner(api.Type{Kind: kind}))
			left -= part
		}
		return e
	case 3:
		if size == 4 && len(w.m.Textures) > 0 {
			texture := name(w.m.Textures[w.next(len(w.m.Textures))])
			if w.next(2) == 0 {
				return call("sample", texture, inner(vec2Type), inner(fixedType))
			}
			return call("fetch", texture, w.index(inner), w.index(inner), w.index(inner))
		}
	case 4:
		return w.derivative(t, inner)
	}
	return w.leaf(t)
}

// target returns a target with its type; there is an output that can be one.
func (w *writer) target(depth int) (api.Expr, api.Type) {
	var choices []api.Field
	for _, f := range w.visible() {
		if strings.HasPrefix(f.Name, "v") || strings.HasPrefix(f.Name, "o") {
			choices = append(choices, f)
		}
	}
	if len(choices) == 0 {
		return api.Expr{}, api.Type{}
	}
	f := choices[w.next(len(choices))]
	e, t := name(f.Name), f.Type
	for t.Kind == api.StructType && w.next(3) > 0 {
		fields := w.m.Structs[types.FindStruct(w.m, t.Name)].Fields
		inner := fields[w.next(len(fields))]
		e, t = api.Expr{Kind: api.MemberExpr, Name: inner.Name, Args: []api.Expr{e}}, inner.Type
	}
	if types.IsVector(t) {
		switch w.next(3) {
		case 0:
			return api.Expr{Kind: api.MemberExpr, Name: "y", Args: []api.Expr{e}}, fixedType
		case 1:
			index := w.index(func(t api.Type) api.Expr { return w.expr(t, depth-1) })
			return api.Expr{Kind: api.IndexExpr, Args: []api.Expr{e, index}}, fixedType
		}
	}
	return e, t
}

// block returns statements, behind which their variables are not visible any more.
func (w *writer) block(depth, most int) []api.Stmt {
	outside := len(w.scope)
	block := w.stmts(depth, most)
	w.scope = w.scope[:outside:outside]
	return block
}

func (w *writer) stmts(depth, most int) []api.Stmt {
	var block []api.Stmt
	for range 1 + w.next(most) {
		block = append(block, w.stmt(depth, most))
	}
	return block
}

func (w *writer) stmt(depth, most int) api.Stmt {
	choice := w.next(12)
	if target, t := w.target(depth); target.Kind != 0 && (choice < 4 || choice < 9 && most <= 1) {
		return api.Stmt{Kind: api.AssignStmt, Target: target, Value: w.expr(t, depth)}
	}
	switch {
	case choice < 6 || choice < 9 && most <= 1:
		f := api.Field{Type: w.typeOf()}
		s := api.Stmt{Kind: api.LetStmt, Type: f.Type, Value: w.expr(f.Type, depth)}
		w.counter++
		f.Name = fmt.Sprintf("v%d", w.counter)
		s.Name, w.scope = f.Name, append(w.scope, f)
		return s
	case choice == 8 && w.inMain && w.loops < 3:
		w.loops++
		s := api.Stmt{Kind: api.LoopStmt, Count: 1 + w.next(5), Body: w.block(depth, most-1)}
		w.loops--
		return s
	case choice < 9:
		s := api.Stmt{Kind: api.IfStmt, Value: w.expr(boolType, depth), Body: w.block(depth, most-1)}
		if w.next(2) == 0 {
			s.Else = w.block(depth, most-1)
		}
		return s
	case w.loops > 0 && w.next(2) == 0:
		return api.Stmt{Kind: api.StmtKind(5 + w.next(2))}
	case w.inMain && w.m.Stage == api.FragmentStage && w.next(4) == 0:
		return api.Stmt{Kind: api.DiscardStmt}
	case w.inMain && w.m.Stage == api.GeometryStage:
		return api.Stmt{Kind: api.StmtKind(8 + w.next(2))}
	}
	return api.Stmt{Kind: api.IfStmt, Value: w.expr(boolType, depth)}
}

// module returns an arbitrary module.
func (w *writer) module() api.Module {
	w.m, w.scope, w.inMain, w.loops, w.counter = api.Module{Stage: api.Stage(1 + w.next(3))}, nil, false, 0, 0
	for i := range w.next(3) {
		fields := append(w.fields("x", 2), api.Field{Name: "last", Type: simpleTypes()[w.next(7)]})
		w.m.Structs = append(w.m.Structs, api.Struct{Name: fmt.Sprintf("S%d", i), Fields: fields})
	}
	w.m.Uniforms, w.m.Inputs = w.fields("u", 3), w.fields("i", 3)
	w.m.Outputs = append(w.fields("o", 2), api.Field{Name: "o", Type: simpleTypes()[w.next(7)]})
	for i := range w.next(4) {
		w.m.Textures = append(w.m.Textures, fmt.Sprintf("t%d", i))
	}
	for i := range w.next(4) {
		w.m.Buffers = append(w.m.Buffers, fmt.Sprintf("b%d", i))
	}
	for i := range w.next(4) {
		f := api.Function{Name: fmt.Sprintf("f%d", i), Params: w.fields("p", 2), Result: w.typeOf()}
		w.scope = slices.Clone(f.Params)
		f.Body = w.stmts(3, 2)
		f.Return = w.expr(f.Result, 3)
		w.m.Functions = append(w.m.Functions, f)
	}
	w.scope, w.inMain = nil, true
	for range 3 {
		w.m.Main = append(w.m.Main, w.stmts(3, 4)...)
	}
	return w.m
}
