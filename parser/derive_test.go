package parser

import (
	"strings"

	"frustum/api"
	"frustum/format"
)

// random returns the next arbitrary numbers below a bound.
func random(seed uint64) func(beyond int) int {
	state := seed
	return func(beyond int) int {
		state = state*6364136223846793005 + 1442695040888963407
		return int(state>>33) % beyond
	}
}

// deriver writes the tokens of a text that is derived from the grammar by arbitrary choices, beside its tree.
type deriver struct {
	next   func(beyond int) int
	tokens []string
}

func (d *deriver) write(tokens ...string) {
	d.tokens = append(d.tokens, tokens...)
}

// some reports true once in a number of times.
func (d *deriver) some(times int) bool {
	return d.next(times) == 0
}

func (d *deriver) name() string {
	names := []string{"a", "b", "c", "x", "position", "_", "A1", "vec5", "min", "f", "shaders", "a_name_that_is_longer_than_sixteen_bytes"}
	name := names[d.next(len(names))]
	d.write(name)
	return name
}

func (d *deriver) typeWord() (string, api.TypeKind) {
	words := []string{"fixed", "half", "int", "bool", "vec2", "vec3", "vec4"}
	i := d.next(len(words))
	d.write(words[i])
	return words[i], api.TypeKind(i + 1)
}

func (d *deriver) typeOf() api.Type {
	if d.some(4) {
		return api.Type{Kind: api.StructType, Name: d.name()}
	}
	_, kind := d.typeWord()
	return api.Type{Kind: kind}
}

func (d *deriver) field() api.Field {
	name := d.name()
	d.write(":")
	return api.Field{Name: name, Type: d.typeOf()}
}

func (d *deriver) fieldLine() api.Field {
	field := d.field()
	d.write(";")
	return field
}

func (d *deriver) module(size int) api.Module {
	stage := d.next(3)
	d.write("shader", []string{"vertex", "geometry", "fragment"}[stage], ";")
	m := api.Module{Stage: api.Stage(stage + 1)}
	for range d.next(size + 1) {
		d.declaration(&m, size)
	}
	d.write("main")
	m.Main = d.block(size)
	return m
}

func (d *deriver) declaration(m *api.Module, size int) {
	choice := d.next(7)
	d.write([]string{"struct", "uniform", "in", "out", "texture", "buffer", "fn"}[choice])
	switch choice {
	case 0:
		s := api.Struct{Name: d.name()}
		d.write("{")
		for range d.next(3) {
			s.Fields = append(s.Fields, d.fieldLine())
		}
		d.write("}")
		m.Structs = append(m.Structs, s)
	case 1:
		m.Uniforms = append(m.Uniforms, d.fieldLine())
	case 2:
		m.Inputs = append(m.Inputs, d.fieldLine())
	case 3:
		m.Outputs = append(m.Outputs, d.fieldLine())
	case 4:
		m.Textures = append(m.Textures, d.name())
		d.write(";")
	case 5:
		m.Buffers = append(m.Buffers, d.name())
		d.write(";")
	case 6:
		m.Functions = append(m.Functions, d.function(size))
	}
}

func (d *deriver) function(size int) api.Function {
	f := api.Function{Name: d.name()}
	d.write("(")
	for i := range d.next(4) {
		if i > 0 {
			d.write(",")
		}
		f.Params = append(f.Params, d.field())
	}
	d.write(")", "->")
	f.Result = d.typeOf()
	d.write("{")
	f.Body = d.statements(size)
	d.write("return")
	f.Return = d.expression(size)
	d.write(";", "}")
	return f
}

func (d *deriver) block(size int) []api.Stmt {
	d.write("{")
	statements := d.statements(size)
	d.write("}")
	return statements
}

func (d *deriver) statements(size int) []api.Stmt {
	var statements []api.Stmt
	for range d.next(size + 1) {
		statements = append(statements, d.statement(size-1))
	}
	return statements
}

func (d *deriver) statement(size int) api.Stmt {
	switch d.next(6) {
	case 0:
		d.write("let")
		field := d.field()
		d.write("=")
		s := api.Stmt{Kind: api.LetStmt, Name: field.Name, Type: field.Type, Value: d.expression(size)}
		d.write(";")
		return s
	case 1:
		s := api.Stmt{Kind: api.IfStmt}
		d.write("if", "(")
		s.Value = d.expression(size)
		d.write(")")
		s.Body = d.block(size)
		if d.some(2) {
			d.write("else")
			s.Else = d.block(size)
		}
		return s
	case 2:
		count := d.next(20)
		d.write("loop", format.FormatInt(count))
		return api.Stmt{Kind: api.LoopStmt, Count: count, Body: d.block(size)}
	case 3:
		kind := d.next(5)
		d.write([]string{"break", "continue", "discard", "emit", "cut"}[kind], ";")
		return api.Stmt{Kind: api.StmtKind(5 + kind)}
	}
	s := api.Stmt{Kind: api.AssignStmt, Target: d.postfix(size)}
	d.write("=")
	s.Value = d.expression(size)
	d.write(";")
	return s
}

// operator is a binary operator with its sign and its level of precedence, from the lowest one.
type operator struct {
	sign  string
	op    api.Operator
	level int
}

func allOperators() []operator {
	return []operator{
		{"|", api.OpOr, 1}, {"^", api.OpXor, 2}, {"&", api.OpAnd, 3},
		{"==", api.OpEqual, 4}, {"!=", api.OpNotEqual, 4}, {"<", api.OpLess, 4}, {"<=", api.OpLessEqual, 4}, {">", api.OpGreater, 4}, {">=", api.OpGreaterEqual, 4},
		{"<<", api.OpShiftLeft, 5}, {">>", api.OpShiftRight, 5}, {"+", api.OpAdd, 6}, {"-", api.OpSub, 6}, {"*", api.OpMul, 7}, {"/", api.OpDiv, 7}, {"%", api.OpMod, 7},
	}
}

func (d *deriver) expression(size int) api.Expr {
	return d.level(1, size)
}

// level derives an expression whose operators have at least a level of precedence.
func (d *deriver) level(level, size int) api.Expr {
	if level == 8 {
		return d.unary(size)
	}
	e := d.level(level+1, size)
	for size > 0 && d.some(8) {
		var choices []operator
		for _, o := range allOperators() {
			if o.level == level {
				choices = append(choices, o)
			}
		}
		o := choices[d.next(len(choices))]
		d.write(o.sign)
		e = binary(o.op, e, d.level(level+1, size-1))
		if level == 4 {
			break
		}
	}
	return e
}

func (d *deriver) unary(size int) api.Expr {
	switch d.next(12) {
	case 0:
		d.write("-")
		return unary(api.OpNegate, d.unary(size))
	case 1:
		d.write("!")
		return unary(api.OpNot, d.unary(size))
	}
	return d.postfix(size)
}

func (d *deriver) postfix(size int) api.Expr {
	e := d.primary(size)
	for d.some(5) {
		if d.some(2) {
			d.write(".")
			e = member(e, d.name())
			continue
		}
		d.write("[")
		e = index(e, d.expression(size-1))
		d.write("]")
	}
	return e
}

func (d *deriver) primary(size int) api.Expr {
	switch d.next(10) {
	case 0:
		value := d.next(1000)
		d.write(format.FormatInt(value))
		return integer(value)
	case 1:
		value := d.next(api.MaxValue)
		d.write(format.FormatFixed(value))
		return number(value)
	case 2:
		d.write("true")
		return boolean(1)
	case 3:
		d.write("false")
		return boolean(0)
	case 4:
		if size <= 0 {
			break
		}
		d.write("(")
		e := d.expression(size - 1)
		d.write(")")
		return e
	case 5:
		return d.call(d.name(), size)
	case 6:
		word, _ := d.typeWord()
		return d.call(word, size)
	}
	return name(d.name())
}

func (d *deriver) call(name string, size int) api.Expr {
	var args []api.Expr
	d.write("(")
	for i := range d.next(max(0, size) + 1) {
		if i > 0 {
			d.write(",")
		}
		args = append(args, d.expression(size-1))
	}
	d.write(")")
	return call(name, args...)
}

// apart returns tokens with arbitrary separators between, in front of and behind them.
func apart(tokens []string, next func(beyond int) int) string {
	separators := []string{" ", "\n", "\t", "  \n", " // a comment ) } ;\n", " //\n\t//if\n"}
	var text strings.Builder
	for _, token := range tokens {
		text.WriteString(separators[next(len(separators))])
		text.WriteString(token)
	}
	text.WriteString(separators[next(len(separators))])
	return text.String()
}

// dense returns tokens with a space only where two of them could be one, or a comment, without it.
func dense(tokens []string) string {
	text := ""
	for _, token := range tokens {
		if text != "" && touches(text[len(text)-1], token[0]) {
			text += " "
		}
		text += token
	}
	return text
}

// touches reports whether two bytes could belong to one token, or begin a comment.
func touches(a, b byte) bool {
	signs := "=!<>-/"
	isSign := func(b byte) bool { return strings.IndexByte(signs, b) >= 0 }
	isWord := func(b byte) bool {
		return b == '_' || '0' <= b && b <= '9' || 'a' <= b && b <= 'z' || 'A' <= b && b <= 'Z'
	}
	return isWord(a) && isWord(b) || isSign(a) && isSign(b)
}
