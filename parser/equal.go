package parser

import (
	"slices"

	"frustum/api"
)

// EqualExpr reports whether two expressions are equal in all fields.
func EqualExpr(a, b api.Expr) bool {
	return a.Kind == b.Kind && a.Op == b.Op && a.Name == b.Name && a.Value == b.Value && slices.EqualFunc(a.Args, b.Args, EqualExpr)
}

// Equal reports whether two modules are equal in all fields.
func Equal(a, b api.Module) bool {
	return a.Stage == b.Stage &&
		slices.EqualFunc(a.Structs, b.Structs, equalStruct) &&
		slices.Equal(a.Uniforms, b.Uniforms) &&
		slices.Equal(a.Textures, b.Textures) &&
		slices.Equal(a.Buffers, b.Buffers) &&
		slices.Equal(a.Inputs, b.Inputs) &&
		slices.Equal(a.Outputs, b.Outputs) &&
		slices.EqualFunc(a.Functions, b.Functions, equalFunction) &&
		equalBlock(a.Main, b.Main)
}

func equalStruct(a, b api.Struct) bool {
	return a.Name == b.Name && slices.Equal(a.Fields, b.Fields)
}

func equalFunction(a, b api.Function) bool {
	return a.Name == b.Name && slices.Equal(a.Params, b.Params) && a.Result == b.Result && equalBlock(a.Body, b.Body) && EqualExpr(a.Return, b.Return)
}

func equalBlock(a, b []api.Stmt) bool {
	return slices.EqualFunc(a, b, equalStmt)
}

func equalStmt(a, b api.Stmt) bool {
	return a.Kind == b.Kind && a.Name == b.Name && a.Type == b.Type && a.Count == b.Count &&
		EqualExpr(a.Target, b.Target) && EqualExpr(a.Value, b.Value) && equalBlock(a.Body, b.Body) && equalBlock(a.Else, b.Else)
}
