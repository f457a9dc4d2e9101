package types

import (
	"fmt"
	"regexp"
	"slices"
	"strings"

	"frustum/api"
	"frustum/lexer"
	"frustum/parser"
)

// signs are the signs of the operators, by their numbers, where the unary ones have a letter more.
func signs() []string {
	return strings.Split(" + - * / % & | ^ << >> < <= > >= == != -u !u", " ")
}

// numbersWords are the types of most operators.
func numberWords() []string {
	return strings.Fields("fixed half int vec2 vec3 vec4")
}

// builtinCounts are the built-in functions with their numbers of arguments.
func builtinCounts() map[string]int {
	return map[string]int{"min": 2, "max": 2, "clamp": 3, "abs": 1, "floor": 1, "fract": 1, "sqrt": 1, "dot": 2, "mix": 3, "sample": 3, "fetch": 4, "load": 2, "ddx": 1, "ddy": 1}
}

// makeSignatures returns the result types of the operators and built-in functions that values can be given to, by "NAME TYPE TYPE".
func makeSignatures() map[string]string {
	table := map[string]string{}
	for _, n := range numberWords() {
		table["-u "+n] = n
		for _, sign := range []string{"+", "-", "*", "/"} {
			table[sign+" "+n+" "+n] = n
		}
		table["min "+n+" "+n], table["max "+n+" "+n], table["clamp "+n+" "+n+" "+n], table["abs "+n] = n, n, n, n
	}
	for _, n := range []string{"fixed", "half", "int"} {
		for _, sign := range []string{"<", "<=", ">", ">="} {
			table[sign+" "+n+" "+n] = "bool"
		}
	}
	for _, n := range strings.Fields("fixed half int bool vec2 vec3 vec4") {
		table["== "+n+" "+n], table["!= "+n+" "+n] = "bool", "bool"
	}
	for _, v := range []string{"vec2", "vec3", "vec4"} {
		table["* "+v+" fixed"], table["/ "+v+" fixed"], table["dot "+v+" "+v], table["mix "+v+" "+v+" fixed"] = v, v, "fixed", v
	}
	table["mix fixed fixed fixed"], table["floor fixed"], table["fract fixed"], table["sqrt fixed"] = "fixed", "fixed", "fixed", "fixed"
	table["% int int"], table["<< int int"], table[">> int int"] = "int", "int", "int"
	for _, sign := range []string{"&", "|", "^"} {
		table[sign+" int int"], table[sign+" bool bool"] = "int", "bool"
	}
	table["!u int"], table["!u bool"] = "int", "bool"
	table["fixed int"], table["fixed half"], table["fixed bool"], table["half fixed"], table["int fixed"], table["int bool"], table["bool int"] = "fixed", "fixed", "fixed", "half", "int", "int", "bool"
	table["sample name vec2 fixed"], table["fetch name int int int"], table["load name int"] = "vec4", "vec4", "int"
	return table
}

var signatures = makeSignatures()

// typeOfWord returns the type with a word.
func typeOfWord(word string) api.Type {
	i := slices.Index(strings.Fields("fixed half int bool vec2 vec3 vec4"), word)
	return api.Type{Kind: api.TypeKind(i + 1)}
}

// failed is an error without a type.
func failed(code api.Errno) (api.Type, api.Errno) {
	return api.Type{}, code
}

// bySignature returns the result type of an operator or a built-in function.
func bySignature(what string, words []string) (api.Type, api.Errno) {
	result, found := signatures[strings.Join(append([]string{what}, words...), " ")]
	if !found {
		return failed(api.ErrType)
	}
	return typeOfWord(result), api.OK
}

// firstField returns the type of the first field with a name.
func firstField(fields []api.Field, name string) (api.Type, bool) {
	for _, f := range fields {
		if f.Name == name {
			return f.Type, true
		}
	}
	return api.Type{}, false
}

// expectedType returns what ExprType must return for types without names they must not have, rule by rule of P20.2.
func expectedType(m api.Module, scope []api.Field, e api.Expr) (api.Type, api.Errno) {
	counts := map[api.ExprKind]int{1: 0, 2: 0, 3: 0, 4: 0, 5: 1, 6: 2, 7: len(e.Args), 8: 1, 9: 2}
	if count, known := counts[e.Kind]; !known || count != len(e.Args) {
		return failed(api.ErrKind)
	}
	reversed := slices.Clone(scope)
	slices.Reverse(reversed)
	isStruct := slices.ContainsFunc(m.Structs, func(s api.Struct) bool { return s.Name == e.Name })
	isResource := e.Kind == 7 && !isStruct && slices.Contains(strings.Fields("sample fetch load ddx ddy"), e.Name)
	var types []api.Type
	var words []string
	for i, arg := range e.Args {
		if i == 0 && isResource {
			types, words = append(types, api.Type{}), append(words, "name")
			continue
		}
		t, code := expectedType(m, scope, arg)
		if code != api.OK {
			return failed(code)
		}
		types, words = append(types, t), append(words, wordOf(t))
	}
	switch e.Kind {
	case 1, 2, 3:
		if limits := []int{0, 536870911, 2147483647, 1}; e.Value < 0 || e.Value > limits[e.Kind] {
			return failed(api.ErrRange)
		}
		return []api.Type{{}, fixedType, intType, boolType}[e.Kind], api.OK
	case 4:
		if t, found := firstField(slices.Concat(reversed, m.Uniforms, m.Inputs, m.Outputs), e.Name); found {
			return t, api.OK
		}
		return failed(api.ErrName)
	case 5, 6:
		if (e.Kind == 5) != (e.Op == 17 || e.Op == 18) || e.Op < 1 || e.Op > 18 {
			return failed(api.ErrKind)
		}
		return bySignature(signs()[e.Op], words)
	case 8:
		return expectedMember(m, types[0], e.Name)
	case 9:
		if words[0] != "vec2" && words[0] != "vec3" && words[0] != "vec4" || words[1] != "int" {
			return failed(api.ErrType)
		}
		return fixedType, api.OK
	}
	if isResource {
		return expectedResource(m, reversed, e, words)
	}
	return expectedCall(m, e.Name, types, words)
}

// expectedMember returns the type of a member.
func expectedMember(m api.Module, t api.Type, name string) (api.Type, api.Errno) {
	switch word := wordOf(t); {
	case word == "vec2" && strings.Contains(" x y ", " "+name+" ") && name != "", word == "vec3" && strings.Contains(" x y z ", " "+name+" ") && name != "", word == "vec4" && strings.Contains(" x y z w ", " "+name+" ") && name != "":
		if !strings.Contains(name, " ") {
			return fixedType, api.OK
		}
		return failed(api.ErrName)
	case strings.HasPrefix(word, "vec"):
		return failed(api.ErrName)
	case t.Kind == 8:
		for _, s := range m.Structs {
			if s.Name == t.Name {
				if t, found := firstField(s.Fields, name); found {
					return t, api.OK
				}
				break
			}
		}
		return failed(api.ErrName)
	}
	return failed(api.ErrType)
}

// expectedResource returns the type of a call that takes a texture, a buffer or an input by its name. The scope begins with the last variable.
func expectedResource(m api.Module, scope []api.Field, e api.Expr, words []string) (api.Type, api.Errno) {
	if len(words) == 0 {
		return failed(api.ErrCount)
	}
	name := e.Args[0]
	isName := name.Kind == 4 && len(name.Args) == 0
	input, isInput := firstField(m.Inputs, name.Name)
	_, isHidden := firstField(scope, name.Name)
	derivative := e.Name == "ddx" || e.Name == "ddy"
	switch {
	case !isName, e.Name == "load" && !slices.Contains(m.Buffers, name.Name), (e.Name == "sample" || e.Name == "fetch") && !slices.Contains(m.Textures, name.Name), derivative && (!isInput || isHidden):
		return failed(api.ErrName)
	case len(words) != builtinCounts()[e.Name]:
		return failed(api.ErrCount)
	case derivative && !slices.Contains(strings.Fields("fixed vec2 vec3 vec4"), wordOf(input)):
		return failed(api.ErrType)
	case derivative && m.Stage != 3:
		return failed(api.ErrKind)
	case derivative:
		return input, api.OK
	}
	return bySignature(e.Name, words)
}

// expectedCall returns the type of any other call.
func expectedCall(m api.Module, name string, types []api.Type, words []string) (api.Type, api.Errno) {
	if i := strings.Index("vec2 vec3 vec4 ", name+" "); i >= 0 && len(name) == 4 {
		sum, other := 0, false
		for _, t := range types {
			sum += Components(m, t)
			other = other || !slices.Contains(strings.Fields("fixed vec2 vec3 vec4"), wordOf(t))
		}
		switch {
		case sum != i/5+2:
			return failed(api.ErrCount)
		case other:
			return failed(api.ErrType)
		}
		return typeOfWord(name), api.OK
	}
	if slices.Contains([]string{"fixed", "half", "int", "bool"}, name) {
		if len(words) != 1 {
			return failed(api.ErrCount)
		}
		return bySignature(name, words)
	}
	for _, s := range m.Structs {
		if s.Name == name {
			return expectedFields(structType(name), s.Fields, types)
		}
	}
	if count, found := builtinCounts()[name]; found {
		if len(words) != count {
			return failed(api.ErrCount)
		}
		return bySignature(name, words)
	}
	for _, f := range m.Functions {
		if f.Name == name {
			return expectedFields(f.Result, f.Params, types)
		}
	}
	return failed(api.ErrName)
}

func expectedFields(result api.Type, fields []api.Field, types []api.Type) (api.Type, api.Errno) {
	if len(types) != len(fields) {
		return failed(api.ErrCount)
	}
	for i, f := range fields {
		if types[i] != f.Type {
			return failed(api.ErrType)
		}
	}
	return result, api.OK
}

// reader reads a module as P20.3 says, in the order of its sentences, and notes the errors. Only the first one counts.
type reader struct {
	m      api.Module
	errors []api.Errno
	// isMain, loops, params and scope are those of the statement that is read.
	isMain bool
	loops  int
	params int
	scope  []api.Field
}

func (r *reader) note(wrong bool, code api.Errno) {
	if wrong {
		r.errors = append(r.errors, code)
	}
}

// expectedCheck returns what Check must return.
func expectedCheck(m api.Module) api.Errno {
	r := reader{m: m}
	r.note(m.Stage != 1 && m.Stage != 2 && m.Stage != 3, api.ErrKind)
	r.note(parser.Nodes(m) > 1000 || parser.Depth(m) > 16, api.ErrTooLong)
	r.note(max(len(m.Structs), len(m.Uniforms), len(m.Inputs), len(m.Outputs), len(m.Functions)) > 16 || len(m.Textures) > 4 || len(m.Buffers) > 4, api.ErrTooLong)
	if len(r.errors) > 0 {
		return r.errors[0]
	}
	r.structs()
	r.globals()
	r.note(Total(m, m.Uniforms) > 64 || Total(m, m.Inputs) > 32 || Total(m, m.Outputs) > 32, api.ErrTooLong)
	for i, f := range m.Functions {
		r.function(i, f)
	}
	r.m, r.isMain, r.params, r.scope = m, true, 0, nil
	r.stmts(m.Main)
	if len(r.errors) > 0 {
		return r.errors[0]
	}
	r.note(Weight(m) > 512, api.ErrTooLong)
	return append(r.errors, api.OK)[0]
}

var expectedName = regexp.MustCompile(`^[A-Za-z_][A-Za-z0-9_]{0,15}$`)

// name notes an error unless a name is valid and none of these.
func (r *reader) name(name string, used []string) {
	_, builtin := builtinCounts()[name]
	r.note(!expectedName.MatchString(name) || lexer.IsKeyword(name) || builtin || slices.Contains(used, name), api.ErrName)
}

// typeIn notes an error unless a type is valid with these structs.
func (r *reader) typeIn(t api.Type, structs []api.Struct) {
	ok := t.Kind >= 1 && t.Kind <= 7 && t.Name == ""
	for _, s := range structs {
		ok = ok || t == structType(s.Name)
	}
	r.note(!ok, api.ErrType)
}

func (r *reader) structs() {
	var used []string
	for i, s := range r.m.Structs {
		r.name(s.Name, used)
		r.note(len(s.Fields) == 0 || len(s.Fields) > 16, api.ErrCount)
		var fields []string
		for _, f := range s.Fields {
			r.name(f.Name, fields)
			r.typeIn(f.Type, r.m.Structs[:i])
			fields = append(fields, f.Name)
		}
		used = append(used, s.Name)
	}
}

// globalsOf returns the names of the declarations of a module, in the order in which they are declared.
func globalsOf(m api.Module) []string {
	var all []string
	for _, s := range m.Structs {
		all = append(all, s.Name)
	}
	for _, f := range m.Uniforms {
		all = append(all, f.Name)
	}
	all = slices.Concat(all, m.Textures, m.Buffers)
	for _, f := range slices.Concat(m.Inputs, m.Outputs) {
		all = append(all, f.Name)
	}
	for _, f := range m.Functions {
		all = append(all, f.Name)
	}
	return all
}

func (r *reader) globals() {
	used := globalsOf(api.Module{Structs: r.m.Structs})
	for _, f := range r.m.Uniforms {
		r.name(f.Name, used)
		r.typeIn(f.Type, r.m.Structs)
		used = append(used, f.Name)
	}
	for _, name := range slices.Concat(r.m.Textures, r.m.Buffers) {
		r.name(name, used)
		used = append(used, name)
	}
	for _, f := range slices.Concat(r.m.Inputs, r.m.Outputs) {
		r.name(f.Name, used)
		r.typeIn(f.Type, r.m.Structs)
		used = append(used, f.Name)
	}
}

func (r *reader) function(i int, f api.Function) {
	whole := r.m
	defer func() { r.m = whole }()
	r.m.Functions = whole.Functions[:i]
	r.name(f.Name, globalsOf(r.m))
	r.note(len(f.Params) > 16, api.ErrCount)
	used := append(globalsOf(r.m), f.Name)
	for _, p := range f.Params {
		r.name(p.Name, used)
		r.typeIn(p.Type, r.m.Structs)
		used = append(used, p.Name)
	}
	r.typeIn(f.Result, r.m.Structs)
	r.m.Outputs = nil
	r.isMain, r.loops, r.params, r.scope = false, 0, len(f.Params), slices.Clone(f.Params)
	r.stmts(f.Body)
	r.value(f.Return, f.Result)
}

// value notes the error of an expression, or that of another type.
func (r *reader) value(e api.Expr, t api.Type) {
	got, code := expectedType(r.m, r.scope, e)
	r.note(code != api.OK, code)
	r.note(got != t, api.ErrType)
}

func (r *reader) block(block []api.Stmt) {
	scope := slices.Clone(r.scope)
	r.stmts(block)
	r.scope = scope
}

func (r *reader) stmts(block []api.Stmt) {
	for _, s := range block {
		r.stmt(s)
	}
}

func (r *reader) stmt(s api.Stmt) {
	var visible []string
	for _, f := range r.scope {
		visible = append(visible, f.Name)
	}
	switch s.Kind {
	case api.LetStmt:
		r.name(s.Name, append(globalsOf(r.m), visible...))
		r.typeIn(s.Type, r.m.Structs)
		r.value(s.Value, s.Type)
		r.scope = append(r.scope, field(s.Name, s.Type))
	case api.AssignStmt:
		root := s.Target
		for len(root.Args) > 0 && (root.Kind == api.MemberExpr || root.Kind == api.IndexExpr) {
			root = root.Args[0]
		}
		r.note(root.Kind != api.NameExpr, api.ErrKind)
		t, code := expectedType(r.m, r.scope, s.Target)
		r.note(code != api.OK, code)
		forbidden := globalsOf(api.Module{Uniforms: r.m.Uniforms, Inputs: r.m.Inputs})
		for _, p := range r.scope[:r.params] {
			forbidden = append(forbidden, p.Name)
		}
		r.note(slices.Contains(forbidden, root.Name), api.ErrName)
		r.value(s.Value, t)
	case api.IfStmt:
		r.value(s.Value, boolType)
		r.block(s.Body)
		r.block(s.Else)
	case api.LoopStmt:
		r.note(!r.isMain, api.ErrKind)
		r.note(s.Count < 1 || s.Count > 16, api.ErrRange)
		r.note(r.loops >= 3, api.ErrTooLong)
		r.loops++
		r.block(s.Body)
		r.loops--
	case api.BreakStmt, api.ContinueStmt:
		r.note(r.loops == 0, api.ErrKind)
	case api.DiscardStmt:
		r.note(!r.isMain || r.m.Stage != api.FragmentStage, api.ErrKind)
	case api.EmitStmt, api.CutStmt:
		r.note(!r.isMain || r.m.Stage != api.GeometryStage, api.ErrKind)
	default:
		r.note(true, api.ErrKind)
	}
}

// inliner counts as P20.4 says, by inlining each call. It does not end for modules that call too much.
type inliner struct {
	m api.Module
}

// expectedWeight returns what Weight must return.
func expectedWeight(m api.Module) int {
	return min(inliner{m}.stmts(nil, m.Main, 0), 1000000)
}

func (n inliner) stmts(scope []api.Field, block []api.Stmt, depth int) int {
	sum, scope := 0, slices.Clone(scope)
	for _, s := range block {
		t, _ := expectedType(n.m, scope, s.Value)
		switch s.Kind {
		case api.LetStmt:
			sum += Components(n.m, t) + n.expr(scope, s.Value, depth)
			scope = append(scope, field(s.Name, s.Type))
			continue
		case api.AssignStmt:
			sum += Components(n.m, t) + n.expr(scope, s.Value, depth) + n.expr(scope, s.Target, depth)
			continue
		case api.IfStmt:
			sum += n.expr(scope, s.Value, depth)
		}
		sum += 1 + n.stmts(scope, s.Body, depth) + n.stmts(scope, s.Else, depth)
	}
	return sum
}

// scopeBehind returns the variables that are visible behind statements.
func scopeBehind(scope []api.Field, block []api.Stmt) []api.Field {
	scope = slices.Clone(scope)
	for _, s := range block {
		if s.Kind == api.LetStmt {
			scope = append(scope, field(s.Name, s.Type))
		}
	}
	return scope
}

func (n inliner) expr(scope []api.Field, e api.Expr, depth int) int {
	if e.Kind == api.CallExpr && depth > len(n.m.Functions) {
		return 1
	}
	t, code := expectedType(n.m, scope, e)
	sum := max(1, Components(n.m, t))
	if code == api.OK && e.Kind == api.IndexExpr {
		sum = 4
	}
	_, builtin := builtinCounts()[e.Name]
	isCall := code == api.OK && e.Kind == api.CallExpr && !lexer.IsTypeWord(e.Name) && FindStruct(n.m, e.Name) < 0
	args := e.Args
	if isCall && builtin && slices.Contains(strings.Fields("sample fetch load ddx ddy"), e.Name) {
		args = args[1:]
	}
	for _, arg := range args {
		sum += n.expr(scope, arg, depth)
	}
	if isCall && !builtin {
		f := n.m.Functions[FindFunction(n.m, e.Name)]
		sum += Total(n.m, f.Params) + n.stmts(f.Params, f.Body, depth+1) + n.expr(scopeBehind(f.Params, f.Body), f.Return, depth+1)
	}
	return sum
}

// shown returns the text of an expression for a message.
func shown(e api.Expr) string {
	return fmt.Sprintf("%+v", e)
}
