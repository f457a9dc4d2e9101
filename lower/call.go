package lower

import (
	"slices"

	"frustum/api"
	"frustum/types"
)

// call generates the code of a call.
func (g *generator) call(e api.Expr) value {
	switch e.Name {
	case "sample", "fetch", "load":
		return g.access(e.Name, e.Args[0].Name, registersOf(g.values(e.Args[1:])))
	case "ddx":
		return g.derivative(e.Args[0].Name, 1)
	case "ddy":
		return g.derivative(e.Args[0].Name, 2)
	}
	args := g.values(e.Args)
	if kind := kindOf(e.Name); kind != 0 {
		return g.construct(kind, args)
	}
	if types.FindStruct(g.m, e.Name) >= 0 {
		return value{api.Type{Kind: api.StructType, Name: e.Name}, registersOf(args)}
	}
	if i := types.FindFunction(g.m, e.Name); i >= 0 {
		return g.invoke(g.m.Functions[i], args)
	}
	return g.builtin(e.Name, args)
}

// values generates the code of expressions.
func (g *generator) values(list []api.Expr) []value {
	var values []value
	for _, e := range list {
		values = append(values, g.eval(e))
	}
	return values
}

// registersOf returns the registers of all components of values.
func registersOf(values []value) []int {
	var registers []int
	for _, v := range values {
		registers = append(registers, v.registers...)
	}
	return registers
}

// access generates the code of a built-in function of a texture or a buffer.
func (g *generator) access(function, name string, operands []int) value {
	if function == "load" {
		return g.scalar(api.IntType, g.add(api.Load, slices.Index(g.m.Buffers, name), operands...))
	}
	opcode, first := api.Sample, texelComponents*slices.Index(g.m.Textures, name)
	if function == "fetch" {
		opcode = api.Fetch
	}
	return value{api.Type{Kind: api.Vec4Type}, each(texelComponents, func(i int) int { return g.add(opcode, first+i, operands...) })}
}

// derivative generates the code of a derivative of an input, from one of the lists behind the inputs.
func (g *generator) derivative(input string, list int) value {
	from, t, _ := types.Offset(g.m, g.m.Inputs, input)
	return g.load(api.Input, from+list*types.Total(g.m, g.m.Inputs), t)
}

// kindOf returns the kind of a type word, or 0 for other words.
func kindOf(word string) api.TypeKind {
	switch word {
	case "fixed":
		return api.FixedType
	case "half":
		return api.HalfType
	case "int":
		return api.IntType
	case "bool":
		return api.BoolType
	case "vec2":
		return api.Vec2Type
	case "vec3":
		return api.Vec3Type
	case "vec4":
		return api.Vec4Type
	}
	return 0
}

// construct generates the code of a value of a kind that is made from others.
func (g *generator) construct(kind api.TypeKind, args []value) value {
	t := api.Type{Kind: kind}
	if types.IsVector(t) {
		return value{t, registersOf(args)}
	}
	return g.scalar(kind, g.convert(kind, args[0].t.Kind, args[0].registers[0]))
}

// convert generates the code of a value of a kind that is made from one of another kind.
func (g *generator) convert(to, from api.TypeKind, register int) int {
	switch {
	case to == api.HalfType:
		return g.compute(api.Half, register)
	case to == api.BoolType:
		return g.compute(api.BoolOfInt, register)
	case to == api.IntType && from == api.FixedType:
		return g.compute(api.IntOfFixed, register)
	case to == api.FixedType && from != api.HalfType:
		// Bools are 0 or 1 like ints.
		return g.compute(api.FixedOfInt, register)
	}
	return register
}

// invoke generates the code of a function in the place of its call.
func (g *generator) invoke(f api.Function, args []value) value {
	outside := g.variables
	g.variables = nil
	for i, p := range f.Params {
		g.variables = append(g.variables, variable{p.Name, args[i]})
	}
	g.stmts(f.Body)
	result := g.eval(f.Return)
	g.variables = outside
	return result
}

// builtin generates the code of a built-in function of numbers.
func (g *generator) builtin(name string, args []value) value {
	if name == "dot" {
		return g.scalar(api.FixedType, g.dot(args[0].registers, args[1].registers))
	}
	if name == "mix" {
		args[2].registers = []int{g.limited(args[2].registers[0])}
	}
	t := args[0].t
	return value{t, each(len(args[0].registers), func(i int) int {
		var x []int
		for _, arg := range args {
			x = append(x, component(arg, i))
		}
		return g.rounded(t.Kind, g.apply(name, t.Kind, x))
	})}
}

// apply generates the code of a component of a built-in function.
func (g *generator) apply(name string, kind api.TypeKind, x []int) int {
	switch name {
	case "min":
		return g.compute(api.Min, x[0], x[1])
	case "max":
		return g.compute(api.Max, x[0], x[1])
	case "clamp":
		return g.compute(api.Min, g.compute(api.Max, x[0], x[1]), x[2])
	case "floor":
		return g.compute(api.Floor, x[0])
	case "fract":
		return g.compute(api.Fract, x[0])
	case "sqrt":
		return g.compute(api.Sqrt, x[0])
	case "mix":
		return g.compute(api.Add, x[0], g.compute(api.Mul, g.compute(api.Sub, x[1], x[0]), x[2]))
	}
	if kind == api.IntType {
		return g.compute(api.AbsInt, x[0])
	}
	return g.compute(api.Abs, x[0])
}

// limited returns a register with a number limited to [0, One].
func (g *generator) limited(register int) int {
	return g.compute(api.Max, g.compute(api.Min, register, g.constant(api.One)), g.constant(0))
}

// dot generates the code of the sum of the products of the components.
func (g *generator) dot(x, y []int) int {
	sum := g.compute(api.Mul, x[0], y[0])
	for i := 1; i < len(x); i++ {
		sum = g.compute(api.Add, sum, g.compute(api.Mul, x[i], y[i]))
	}
	return sum
}
