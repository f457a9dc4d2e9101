package types

import "frustum/api"

// maxWeight limits weights.
const maxWeight = 1000000

// weigher adds up the weights of the nodes of a function or of Main, without those of the functions that are called.
type weigher struct {
	view
	weight int
	// calls are the numbers of calls of functions, by their indices.
	calls map[int]int
	// deep is whether this is inside more calls than there are functions, so that calls are not followed.
	deep bool
}

// Weight returns the number of nodes of Main after inlining, weighted with their sizes.
func Weight(m api.Module) int {
	globals := viewOf(m)
	main := weigher{view: globals, calls: map[int]int{}}
	main.stmts(m.Main)
	weight, calls := main.weight, main.calls
	// All calls at one depth are counted together, because there may be very many.
	for depth := 1; len(calls) > 0 && weight < maxWeight; depth++ {
		inner := map[int]int{}
		for i, count := range calls {
			w := weigher{view: globals, calls: map[int]int{}, deep: depth > len(m.Functions)}
			w.function(m.Functions[i])
			weight = min(weight+count*w.weight, maxWeight)
			for j, times := range w.calls {
				inner[j] = min(inner[j]+count*times, maxWeight)
			}
		}
		calls = inner
	}
	return weight
}

// add adds a weight.
func (w *weigher) add(weight int) {
	w.weight = min(w.weight+weight, maxWeight)
}

// function adds the weight of a function that is called.
func (w *weigher) function(f api.Function) {
	w.add(w.known.total(f.Params))
	w.variables = append(w.variables, f.Params...)
	w.stmts(f.Body)
	w.expr(f.Return)
}

// block adds the weights of the statements of a block. Behind it, its variables are not visible any more.
func (w *weigher) block(block []api.Stmt) {
	outside := len(w.variables)
	w.stmts(block)
	w.variables = w.variables[:outside]
}

// stmts adds the weights of statements.
func (w *weigher) stmts(block []api.Stmt) {
	for _, s := range block {
		w.stmt(s)
	}
}

// stmt adds the weight of a statement.
func (w *weigher) stmt(s api.Stmt) {
	switch s.Kind {
	case api.LetStmt:
		w.value(s.Value)
		w.variables = append(w.variables, api.Field{Name: s.Name, Type: s.Type})
	case api.AssignStmt:
		w.expr(s.Target)
		w.value(s.Value)
	case api.IfStmt:
		w.expr(s.Value)
		fallthrough
	default:
		w.add(1)
		w.block(s.Body)
		w.block(s.Else)
	}
}

// value adds the weight of an expression, and its components, which are stored.
func (w *weigher) value(e api.Expr) {
	t, _ := w.expr(e)
	w.add(w.known.of(t))
}

// expr adds the weight of an expression, and returns its type.
func (w *weigher) expr(e api.Expr) (api.Type, api.Errno) {
	if w.deep && e.Kind == api.CallExpr {
		w.add(1)
		return w.typeOf(e)
	}
	t, code := w.args(e)
	switch {
	case code != api.OK:
		w.add(1)
	case e.Kind == api.IndexExpr:
		w.add(4)
	default:
		w.add(max(1, w.known.of(t)))
	}
	if code == api.OK && e.Kind == api.CallExpr && w.calleeOf(e.Name) == functionCallee {
		w.calls[FindFunction(w.m, e.Name)]++
	}
	return t, code
}

// args adds the weights of the arguments of an expression, and returns the type of the expression.
func (w *weigher) args(e api.Expr) (api.Type, api.Errno) {
	types, codes := make([]api.Type, len(e.Args)), make([]api.Errno, len(e.Args))
	isNamed := w.beginsWithName(e)
	for i, arg := range e.Args {
		if i > 0 || !isNamed {
			types[i], codes[i] = w.expr(arg)
		}
	}
	t, code := w.typeFrom(e, func(i int) (api.Type, api.Errno) { return types[i], codes[i] })
	// A name of a texture, a buffer or an input only counts in a call without a type.
	if isNamed && code != api.OK && len(e.Args) > 0 {
		w.expr(e.Args[0])
	}
	return t, code
}
