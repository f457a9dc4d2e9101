package interpreter

import (
	"slices"
	"strings"

	"frustum/api"
	"frustum/fixed"
	"frustum/types"
)

// fractionBits is the number of bits behind the point of a fixed-point number.
const fractionBits = 16

// eval returns the value of an expression that has a type.
func (x *execution) eval(e api.Expr) value {
	switch e.Kind {
	case api.NumberExpr:
		return scalar(api.FixedType, e.Value)
	case api.IntExpr:
		return scalar(api.IntType, e.Value)
	case api.BoolExpr:
		return scalar(api.BoolType, e.Value)
	case api.NameExpr:
		return x.find(e.Name)
	case api.UnaryExpr:
		operand := x.eval(e.Args[0])
		return value{operand.t, unary(e.Op, operand.t.Kind, operand.parts)}
	case api.BinaryExpr:
		return operation(e.Op, x.eval(e.Args[0]), x.eval(e.Args[1]))
	case api.CallExpr:
		return x.call(e)
	case api.MemberExpr:
		whole := x.eval(e.Args[0])
		from, t := x.member(whole.t, e.Name)
		return value{t, part(whole.parts, from, types.Components(x.m, t))}
	}
	vector, index := x.eval(e.Args[0]), x.eval(e.Args[1])
	if i := index.parts[0]; 0 <= i && i < len(vector.parts) {
		return scalar(api.FixedType, vector.parts[i])
	}
	return scalar(api.FixedType, 0)
}

// find returns the value of the last visible variable with a name, or of the global with this name.
func (x *execution) find(name string) value {
	for _, v := range slices.Backward(x.variables) {
		if v.name == name {
			return v.value
		}
	}
	for _, v := range x.globals {
		if v.name == name {
			return v.value
		}
	}
	return value{}
}

// operation returns the value of a binary expression.
func operation(op api.Operator, left, right value) value {
	result := value{left.t, binary(op, left.t.Kind, left.parts, right.parts)}
	if isComparison(op) {
		result.t = api.Type{Kind: api.BoolType}
	}
	return result
}

// member returns the index of the first component of a member of a vector or a struct, and the type of the member.
func (x *execution) member(t api.Type, name string) (int, api.Type) {
	if types.IsVector(t) {
		return strings.Index("xyzw", name), api.Type{Kind: api.FixedType}
	}
	from, of, _ := types.Offset(x.m, x.m.Structs[types.FindStruct(x.m, t.Name)].Fields, name)
	return from, of
}

// call returns the value of a call.
func (x *execution) call(e api.Expr) value {
	if isOfResource(e.Name) {
		return x.access(e.Name, e.Args[0].Name, x.values(e.Args[1:]))
	}
	args := x.values(e.Args)
	if kind := kindOf(e.Name); kind != 0 {
		return x.construct(api.Type{Kind: kind}, args)
	}
	if types.FindStruct(x.m, e.Name) >= 0 {
		return x.construct(api.Type{Kind: api.StructType, Name: e.Name}, args)
	}
	if i := types.FindFunction(x.m, e.Name); i >= 0 {
		return x.invoke(x.m.Functions[i], args)
	}
	result := value{args[0].t, builtin(e.Name, args[0].t.Kind, partsOf(args))}
	if e.Name == "dot" {
		result.t = api.Type{Kind: api.FixedType}
	}
	return result
}

// values returns the values of expressions.
func (x *execution) values(list []api.Expr) []value {
	var values []value
	for _, e := range list {
		values = append(values, x.eval(e))
	}
	return values
}

// partsOf returns the components of values, those of each in a list of its own.
func partsOf(values []value) [][]int {
	var lists [][]int
	for _, v := range values {
		lists = append(lists, v.parts)
	}
	return lists
}

// access returns the value of a built-in function of a texture, a buffer or an input.
func (x *execution) access(function, name string, args []value) value {
	n := slices.Concat(partsOf(args)...)
	switch function {
	case "sample":
		return color(Texel(x.b, slices.Index(x.m.Textures, name), n[0], n[1], n[2]))
	case "fetch":
		return color(FetchTexel(x.b, slices.Index(x.m.Textures, name), n[0], n[1], n[2]))
	case "load":
		return scalar(api.IntType, LoadWord(x.b, slices.Index(x.m.Buffers, name), n[0]))
	case "ddx":
		return x.derivative(name, 1)
	}
	return x.derivative(name, 2)
}

// color returns a vector as a value.
func color(v api.Vec4) value {
	return value{api.Type{Kind: api.Vec4Type}, []int{v.X, v.Y, v.Z, v.W}}
}

// derivative returns the value of an input in one of the lists of derivatives, which stand behind the inputs.
func (x *execution) derivative(input string, list int) value {
	from, t, _ := types.Offset(x.m, x.m.Inputs, input)
	return value{t, prepared(x.m, t, behind(x.inputs, from+list*types.Total(x.m, x.m.Inputs)))}
}

// kindOf returns the kind of a type word, or 0 for other words.
func kindOf(word string) api.TypeKind {
	switch word {
	case "fixed":
		return api.FixedType
	case "half":
		return api.HalfType
	case "int":
		return api.IntType
	case "bool":
		return api.BoolType
	case "vec2":
		return api.Vec2Type
	case "vec3":
		return api.Vec3Type
	case "vec4":
		return api.Vec4Type
	}
	return 0
}

// construct returns the value of a type that is made from others.
func (x *execution) construct(t api.Type, args []value) value {
	if types.IsScalar(t) {
		return scalar(t.Kind, convert(t.Kind, args[0].t.Kind, args[0].parts[0]))
	}
	return value{t, part(slices.Concat(partsOf(args)...), 0, types.Components(x.m, t))}
}

// convert returns the value of a kind that is made from one of another kind.
func convert(to, from api.TypeKind, n int) int {
	switch {
	case to == api.FixedType && from != api.HalfType:
		// Bools are 0 or 1 like ints.
		return fixed.Saturate(n * api.One)
	case to == api.IntType && from == api.FixedType:
		return n >> fractionBits
	case to == api.BoolType:
		return truth(n != 0)
	}
	return rounded(to, n)
}

// invoke returns the value that a function returns.
func (x *execution) invoke(f api.Function, args []value) value {
	outside := x.variables
	x.variables = nil
	for i, p := range f.Params {
		x.variables = append(x.variables, variable{p.Name, args[i]})
	}
	x.stmts(f.Body)
	result := x.eval(f.Return)
	x.variables = outside
	return result
}
