package printer

import "frustum/api"

// module adds the text of a module.
func (p *printer) module(m api.Module) {
	stage := stageWord(m.Stage)
	p.require(stage != "")
	p.write("shader ", stage, ";\n")
	for _, s := range m.Structs {
		p.structure(s)
	}
	p.fields("uniform ", m.Uniforms)
	p.names("texture ", m.Textures)
	p.names("buffer ", m.Buffers)
	p.fields("in ", m.Inputs)
	p.fields("out ", m.Outputs)
	for _, f := range m.Functions {
		p.function(f)
	}
	p.write("main ")
	p.block(m.Main, 0)
	p.write("\n")
}

// structure adds the lines of a struct.
func (p *printer) structure(s api.Struct) {
	p.write("struct ")
	p.name(s.Name)
	p.write(" {\n")
	p.fields("  ", s.Fields)
	p.write("}\n")
}

// fields adds a line for each field, with a text in front of it.
func (p *printer) fields(before string, fields []api.Field) {
	for _, f := range fields {
		p.write(before)
		p.field(f)
		p.write(";\n")
	}
}

// names adds a line for each name, with a text in front of it.
func (p *printer) names(before string, names []string) {
	for _, name := range names {
		p.write(before)
		p.name(name)
		p.write(";\n")
	}
}

// function adds the lines of a function.
func (p *printer) function(f api.Function) {
	p.write("fn ")
	p.name(f.Name)
	p.write("(")
	for i, parameter := range f.Params {
		p.separate(i)
		p.field(parameter)
	}
	p.write(") -> ")
	p.typeName(f.Result)
	p.write(" {\n")
	p.stmts(f.Body, 1)
	p.write("  return ")
	p.expr(f.Return)
	p.write(";\n}\n")
}

// separate adds what is between an element of a list and the one in front of it.
func (p *printer) separate(i int) {
	if i > 0 {
		p.write(", ")
	}
}

// stageWord returns the keyword of a stage, or the empty string if it is unknown.
func stageWord(stage api.Stage) string {
	switch stage {
	case api.VertexStage:
		return "vertex"
	case api.GeometryStage:
		return "geometry"
	case api.FragmentStage:
		return "fragment"
	}
	return ""
}

// TypeName returns the text of a type, or the empty string if it has none.
func TypeName(t api.Type) string {
	switch {
	case t.Kind == api.StructType && isName(t.Name):
		return t.Name
	case t.Name == "":
		return typeWord(t.Kind)
	}
	return ""
}

// typeWord returns the type word of a kind, or the empty string if it has none.
func typeWord(kind api.TypeKind) string {
	switch kind {
	case api.FixedType:
		return "fixed"
	case api.HalfType:
		return "half"
	case api.IntType:
		return "int"
	case api.BoolType:
		return "bool"
	case api.Vec2Type:
		return "vec2"
	case api.Vec3Type:
		return "vec3"
	case api.Vec4Type:
		return "vec4"
	}
	return ""
}
