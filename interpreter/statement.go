package interpreter

import (
	"slices"

	"frustum/api"
	"frustum/types"
)

// What a statement raises as a panic, because it ends the statements around it, too.
type (
	breakSignal    struct{}
	continueSignal struct{}
	discardSignal  struct{}
)

// main executes Main, and reports whether it was discarded.
func (x *execution) main() (discarded bool) {
	defer func() {
		switch signal := recover().(type) {
		case nil:
		case discardSignal:
			discarded = true
		default:
			panic(signal)
		}
	}()
	x.stmts(x.m.Main)
	return false
}

// block executes the statements of a block. Behind it, its variables are not visible any more.
func (x *execution) block(block []api.Stmt) {
	outside := len(x.variables)
	x.stmts(block)
	x.variables = x.variables[:outside]
}

// stmts executes statements.
func (x *execution) stmts(block []api.Stmt) {
	for _, s := range block {
		x.stmt(s)
	}
}

// stmt executes a statement.
func (x *execution) stmt(s api.Stmt) {
	switch s.Kind {
	case api.LetStmt:
		// The value can be that of another variable, which must not change with this one.
		v := x.eval(s.Value)
		x.variables = append(x.variables, variable{s.Name, value{v.t, slices.Clone(v.parts)}})
	case api.AssignStmt:
		v := x.eval(s.Value)
		copy(x.target(s.Target).parts, v.parts)
	case api.IfStmt:
		x.choose(s)
	case api.LoopStmt:
		x.loop(s)
	case api.BreakStmt:
		panic(breakSignal{})
	case api.ContinueStmt:
		panic(continueSignal{})
	case api.DiscardStmt:
		panic(discardSignal{})
	case api.EmitStmt:
		x.emit()
	case api.CutStmt:
		x.cut()
	}
}

// target returns the components of a variable that an assignment replaces, or none if an index is out of range.
func (x *execution) target(e api.Expr) value {
	switch e.Kind {
	case api.MemberExpr:
		whole := x.target(e.Args[0])
		from, t := x.member(whole.t, e.Name)
		return value{t, window(whole.parts, from, types.Components(x.m, t))}
	case api.IndexExpr:
		vector, index := x.target(e.Args[0]), x.eval(e.Args[1])
		return value{api.Type{Kind: api.FixedType}, window(vector.parts, index.parts[0], 1)}
	}
	return x.find(e.Name)
}

// window returns the components that exist from an index on, which share memory with all.
func window(parts []int, from, count int) []int {
	if from < 0 || from >= len(parts) {
		return nil
	}
	return parts[from:min(from+count, len(parts))]
}

// choose executes one of the blocks of an if statement.
func (x *execution) choose(s api.Stmt) {
	if x.eval(s.Value).parts[0] != 0 {
		x.block(s.Body)
	} else {
		x.block(s.Else)
	}
}

// loop executes a loop.
func (x *execution) loop(s api.Stmt) {
	for range s.Count {
		if x.isLeft(s.Body) {
			return
		}
	}
}

// isLeft executes an iteration of the innermost loop, and reports whether it leaves the loop.
func (x *execution) isLeft(body []api.Stmt) (left bool) {
	outside := len(x.variables)
	defer func() {
		// A signal leaves blocks without their last statements.
		x.variables = x.variables[:outside]
		switch signal := recover().(type) {
		case nil, continueSignal:
		case breakSignal:
			left = true
		default:
			panic(signal)
		}
	}()
	x.stmts(body)
	return false
}

// emit appends the outputs to the vertices, if there may be more of these.
func (x *execution) emit() {
	if len(x.emitted) < api.MaxEmit {
		x.emitted = append(x.emitted, slices.Clone(x.outputs))
	}
}

// cut appends the number of vertices to the cuts, if there are any behind the last cut.
func (x *execution) cut() {
	last := 0
	if len(x.cuts) > 0 {
		last = x.cuts[len(x.cuts)-1]
	}
	if len(x.emitted) > last {
		x.cuts = append(x.cuts, len(x.emitted))
	}
}
