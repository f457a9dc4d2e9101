package lower

import "frustum/api"

// block generates the code of a block. Behind it, its variables are not visible any more.
func (g *generator) block(block []api.Stmt) {
	outside := len(g.variables)
	g.stmts(block)
	g.variables = g.variables[:outside]
}

// stmts generates the code of statements.
func (g *generator) stmts(block []api.Stmt) {
	for _, s := range block {
		g.stmt(s)
	}
}

// stmt generates the code of a statement.
func (g *generator) stmt(s api.Stmt) {
	switch s.Kind {
	case api.LetStmt:
		// The value can be that of another variable, which must not change with this one.
		v := g.eval(s.Value)
		g.variables = append(g.variables, variable{s.Name, value{v.t, g.copyOf(v.registers)}})
	case api.AssignStmt:
		g.assign(s)
	case api.IfStmt:
		g.choose(s)
	case api.LoopStmt:
		g.control(api.Instr{Op: api.Loop, Imm: s.Count})
		g.block(s.Body)
		g.control(api.Instr{Op: api.EndLoop})
	case api.BreakStmt:
		g.control(api.Instr{Op: api.Break})
	case api.ContinueStmt:
		g.control(api.Instr{Op: api.Continue})
	case api.DiscardStmt:
		g.control(api.Instr{Op: api.Discard})
	case api.EmitStmt:
		g.control(api.Instr{Op: api.Emit})
	case api.CutStmt:
		g.control(api.Instr{Op: api.Cut})
	}
}

// control adds an instruction that writes no register.
func (g *generator) control(in api.Instr) {
	g.code = append(g.code, in)
}

// choose generates the code of an if statement.
func (g *generator) choose(s api.Stmt) {
	g.control(api.Instr{Op: api.If, A: g.eval(s.Value).registers[0]})
	g.block(s.Body)
	if len(s.Else) > 0 {
		g.control(api.Instr{Op: api.Else})
		g.block(s.Else)
	}
	g.control(api.Instr{Op: api.EndIf})
}

// assign generates the code of an assignment.
func (g *generator) assign(s api.Stmt) {
	v := g.eval(s.Value)
	var changed []int
	if s.Target.Kind == api.IndexExpr {
		vector, index := g.eval(s.Target.Args[0]), g.eval(s.Target.Args[1])
		changed = vector.registers
		for i, register := range changed {
			g.write(register, api.Select, 0, g.isIndex(index, i), v.registers[0], register)
		}
	} else {
		changed = g.eval(s.Target).registers
		// All components are read before the first one is written, because the value can consist of components of the same variable.
		for i, register := range g.copyOf(v.registers) {
			g.write(changed[i], api.Move, 0, register)
		}
	}
	g.output(changed)
}

// output sets the outputs whose registers have changed.
func (g *generator) output(registers []int) {
	for _, register := range registers {
		if register < g.outputs {
			g.control(api.Instr{Op: api.Output, A: register, Imm: register})
		}
	}
}
