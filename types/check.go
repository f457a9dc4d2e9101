package types

import (
	"frustum/api"
	"frustum/format"
	"frustum/lexer"
	"frustum/parser"
)

// names are the names that are used.
type names map[string]bool

// Check returns the first error of a module, or OK.
func Check(m api.Module) api.Errno {
	switch {
	case m.Stage < api.VertexStage || m.Stage > api.FragmentStage:
		return api.ErrKind
	case isTooLarge(m):
		return api.ErrTooLong
	}
	for _, step := range []func(api.Module) api.Errno{checkDeclarations, checkTotals, checkFunctions, checkMain, checkWeight} {
		if code := step(m); code != api.OK {
			return code
		}
	}
	return api.OK
}

// isTooLarge reports whether a module has too many parts.
func isTooLarge(m api.Module) bool {
	for _, count := range []int{len(m.Structs), len(m.Uniforms), len(m.Inputs), len(m.Outputs), len(m.Functions)} {
		if count > api.MaxFields {
			return true
		}
	}
	return len(m.Textures) > api.MaxTextures || len(m.Buffers) > api.MaxBuffers || parser.Nodes(m) > api.MaxNodes || parser.Depth(m) > api.MaxDepth
}

// checkDeclarations returns the first error of the structs, uniforms, textures, buffers, inputs and outputs.
func checkDeclarations(m api.Module) api.Errno {
	used := names{}
	for i := range m.Structs {
		if code := used.declareStruct(m, i); code != api.OK {
			return code
		}
	}
	if code := used.declareFields(m, m.Uniforms); code != api.OK {
		return code
	}
	for _, list := range [][]string{m.Textures, m.Buffers} {
		for _, name := range list {
			if code := used.declare(name); code != api.OK {
				return code
			}
		}
	}
	if code := used.declareFields(m, m.Inputs); code != api.OK {
		return code
	}
	return used.declareFields(m, m.Outputs)
}

// declareStruct adds the name of a struct of a module, if the struct has no error.
func (used names) declareStruct(m api.Module, i int) api.Errno {
	s := m.Structs[i]
	if code := used.declare(s.Name); code != api.OK {
		return code
	}
	if len(s.Fields) == 0 || len(s.Fields) > api.MaxFields {
		return api.ErrCount
	}
	// Fields have names of their own, and only the structs before this one can be their types.
	return names{}.declareFields(api.Module{Structs: m.Structs[:i]}, s.Fields)
}

// declareFields adds the names of fields, if they have no error.
func (used names) declareFields(m api.Module, fields []api.Field) api.Errno {
	for _, f := range fields {
		if code := used.declareVariable(m, f.Name, f.Type); code != api.OK {
			return code
		}
	}
	return api.OK
}

// declareVariable adds a name, if it and the type of its variable have no error.
func (used names) declareVariable(m api.Module, name string, t api.Type) api.Errno {
	if code := used.declare(name); code != api.OK {
		return code
	}
	if !isValidType(m, t) {
		return api.ErrType
	}
	return api.OK
}

// declare adds a name, if it is valid and not used yet.
func (used names) declare(name string) api.Errno {
	if !isValidName(name) || used[name] {
		return api.ErrName
	}
	used[name] = true
	return api.OK
}

// isValidName reports whether a declaration can have a name.
func isValidName(name string) bool {
	return format.IsName(name) && !lexer.IsKeyword(name) && !isBuiltin(name)
}

// globalNames returns the names of all declarations of a module.
func globalNames(m api.Module) names {
	used := names{}
	for _, s := range m.Structs {
		used[s.Name] = true
	}
	for _, fields := range [][]api.Field{m.Uniforms, m.Inputs, m.Outputs} {
		for _, f := range fields {
			used[f.Name] = true
		}
	}
	for _, list := range [][]string{m.Textures, m.Buffers} {
		for _, name := range list {
			used[name] = true
		}
	}
	for _, f := range m.Functions {
		used[f.Name] = true
	}
	return used
}

// checkTotals returns the error of too many components of uniforms, inputs or outputs.
func checkTotals(m api.Module) api.Errno {
	if Total(m, m.Uniforms) > api.MaxUniforms || Total(m, m.Inputs) > api.MaxComponents || Total(m, m.Outputs) > api.MaxComponents {
		return api.ErrTooLong
	}
	return api.OK
}

// checkFunctions returns the first error of the functions.
func checkFunctions(m api.Module) api.Errno {
	for i := range m.Functions {
		if code := checkFunction(m, i); code != api.OK {
			return code
		}
	}
	return api.OK
}

// checkFunction returns the first error of a function of a module.
func checkFunction(m api.Module, i int) api.Errno {
	f := m.Functions[i]
	m.Functions = m.Functions[:i]
	used := globalNames(m)
	if code := used.declare(f.Name); code != api.OK {
		return code
	}
	if len(f.Params) > api.MaxFields {
		return api.ErrCount
	}
	if code := used.declareFields(m, f.Params); code != api.OK {
		return code
	}
	if !isValidType(m, f.Result) {
		return api.ErrType
	}
	m.Outputs = nil
	return checkBody(m, f)
}

// checkBody returns the first error of the statements of a function, and of what it returns. The module has what they can use.
func checkBody(m api.Module, f api.Function) api.Errno {
	b := body{view: viewOf(m), used: globalNames(m)}
	for _, p := range f.Params {
		b.add(p)
	}
	b.params = len(f.Params)
	if code := b.stmts(f.Body); code != api.OK {
		return code
	}
	return b.require(f.Return, f.Result)
}

// checkMain returns the first error of the statements of Main.
func checkMain(m api.Module) api.Errno {
	b := body{view: viewOf(m), used: globalNames(m), isMain: true}
	return b.stmts(m.Main)
}

// checkWeight returns the error of a module with too many nodes after inlining.
func checkWeight(m api.Module) api.Errno {
	if Weight(m) > api.MaxWeight {
		return api.ErrTooLong
	}
	return api.OK
}
