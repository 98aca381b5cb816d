package check

import (
	"slices"

	"drawloom/api"
	"drawloom/syntax"
)

// statements returns all statements of a kernel, in the order of its text; none unless the kernel is one of a valid program, since the lists of any other one may contain themselves.
func statements(k api.Kernel) []api.Stmt {
	if !syntax.Valid(api.Program{Kernels: []api.Kernel{k}}) {
		return nil
	}
	return appendStmts(nil, k.Body)
}

// appendStmts appends statements, each followed by those in it.
func appendStmts(all, l []api.Stmt) []api.Stmt {
	for _, s := range l {
		all = append(all, s)
		all = appendStmts(all, s.Body)
		all = appendStmts(all, s.Else)
	}
	return all
}

// copyKernel returns a copy of a kernel that shares no memory with it.
func copyKernel(k api.Kernel) api.Kernel {
	return api.Kernel{Name: k.Name, Params: slices.Clone(k.Params), Shared: slices.Clone(k.Shared), Body: copyList(k.Body, copyStmt)}
}

// copyFunc returns a copy of a function that shares no memory with it.
func copyFunc(f api.Func) api.Func {
	return api.Func{Name: f.Name, Params: slices.Clone(f.Params), Body: copyList(f.Body, copyStmt)}
}

func copyStmt(s api.Stmt) api.Stmt {
	s.Exprs = copyList(s.Exprs, copyExpr)
	s.Body = copyList(s.Body, copyStmt)
	s.Else = copyList(s.Else, copyStmt)
	return s
}

func copyExpr(e api.Expr) api.Expr {
	e.Kids = copyList(e.Kids, copyExpr)
	return e
}

// copyList returns a list of the copies of some items.
func copyList[T any](items []T, copyItem func(item T) T) []T {
	var copies []T
	for _, item := range items {
		one := copyItem(item)
		copies = append(copies, one)
	}
	return copies
}
