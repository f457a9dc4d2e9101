package parser

import "frustum/api"

// module parses a module up to the end of main.
func (p *parser) module() api.Module {
	p.expect("shader")
	m := api.Module{Stage: p.stage()}
	p.expect(";")
	for !p.failed() && !p.accept("main") {
		p.declaration(&m)
	}
	m.Main = p.block()
	return m
}

// stage parses a stage word.
func (p *parser) stage() api.Stage {
	switch {
	case p.accept("vertex"):
		return api.VertexStage
	case p.accept("geometry"):
		return api.GeometryStage
	case p.accept("fragment"):
		return api.FragmentStage
	}
	p.fail()
	return 0
}

// declaration parses a declaration and adds it to the module.
func (p *parser) declaration(m *api.Module) {
	switch {
	case p.accept("struct"):
		m.Structs = append(m.Structs, p.structure())
	case p.accept("uniform"):
		m.Uniforms = append(m.Uniforms, p.fieldLine())
	case p.accept("in"):
		m.Inputs = append(m.Inputs, p.fieldLine())
	case p.accept("out"):
		m.Outputs = append(m.Outputs, p.fieldLine())
	case p.accept("texture"):
		m.Textures = append(m.Textures, p.nameLine())
	case p.accept("buffer"):
		m.Buffers = append(m.Buffers, p.nameLine())
	case p.accept("fn"):
		m.Functions = append(m.Functions, p.function())
	default:
		p.fail()
	}
}

// structure parses a struct behind its keyword.
func (p *parser) structure() api.Struct {
	s := api.Struct{Name: p.name()}
	p.expect("{")
	for !p.failed() && !p.accept("}") {
		s.Fields = append(s.Fields, p.fieldLine())
	}
	return s
}

// function parses a function behind its keyword.
func (p *parser) function() api.Function {
	f := api.Function{Name: p.name(), Params: p.parameters()}
	p.expect("->")
	f.Result = p.typeName()
	p.expect("{")
	f.Body = p.statements("return")
	f.Return = p.expression()
	p.expect(";")
	p.expect("}")
	return f
}

// parameters parses the parameters of a function with their parentheses.
func (p *parser) parameters() []api.Field {
	p.expect("(")
	return list(p, p.field)
}

// list parses zero or more items that are separated by commas, and the parenthesis behind them.
func list[T any](p *parser, item func() T) []T {
	var items []T
	if p.accept(")") {
		return items
	}
	items = append(items, item())
	for p.accept(",") {
		items = append(items, item())
	}
	p.expect(")")
	return items
}

// nameLine parses a name and the semicolon behind it.
func (p *parser) nameLine() string {
	name := p.name()
	p.expect(";")
	return name
}

// fieldLine parses a field and the semicolon behind it.
func (p *parser) fieldLine() api.Field {
	field := p.field()
	p.expect(";")
	return field
}

// field parses a name with its type.
func (p *parser) field() api.Field {
	name := p.name()
	p.expect(":")
	return api.Field{Name: name, Type: p.typeName()}
}

// typeName parses a type.
func (p *parser) typeName() api.Type {
	if kind := typeKind(p.peek().Text); kind != 0 {
		p.at++
		return api.Type{Kind: kind}
	}
	return api.Type{Kind: api.StructType, Name: p.name()}
}

// typeKind returns the kind of the type with a type word, or 0 for other texts.
func typeKind(word string) api.TypeKind {
	switch word {
	case "fixed":
		return api.FixedType
	case "half":
		return api.HalfType
	case "int":
		return api.IntType
	case "bool":
		return api.BoolType
	case "vec2":
		return api.Vec2Type
	case "vec3":
		return api.Vec3Type
	case "vec4":
		return api.Vec4Type
	}
	return 0
}
