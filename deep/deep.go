// Package deep copies trees of package api, so that results share no memory with arguments.
package deep

import (
	"slices"

	"brocade/api"
)

// each copies a list element by element. An empty list becomes nil.
func each[T any](l []T, copied func(T) T) []T {
	if len(l) == 0 {
		return nil
	}
	r := make([]T, len(l))
	for i, x := range l {
		r[i] = copied(x)
	}
	return r
}

// Lin copies a linear form.
func Lin(l api.Lin) api.Lin {
	return api.Lin{K: l.K, L: each(l.L, func(m api.Mono) api.Mono { return m })}
}

// Lins copies linear forms.
func Lins(l []api.Lin) []api.Lin { return each(l, Lin) }

// Constraint copies a constraint.
func Constraint(c api.Constraint) api.Constraint {
	return api.Constraint{Lin: Lin(c.Lin), Eq: c.Eq}
}

// Constraints copies constraints.
func Constraints(l []api.Constraint) []api.Constraint { return each(l, Constraint) }

// Index copies an index.
func Index(x api.Index) api.Index {
	return api.Index{Lin: Lin(x.Lin), From: x.From, At: Lins(x.At)}
}

// Indices copies indices.
func Indices(l []api.Index) []api.Index { return each(l, Index) }

// Expr copies an expression.
func Expr(e api.Expr) api.Expr {
	e.Lin = Lin(e.Lin)
	e.Idx = Indices(e.Idx)
	e.Args = Exprs(e.Args)
	return e
}

// Exprs copies expressions.
func Exprs(l []api.Expr) []api.Expr { return each(l, Expr) }

// Axis copies an axis.
func Axis(a api.Axis) api.Axis { return api.Axis{Name: a.Name, Size: Lin(a.Size)} }

// Axes copies axes.
func Axes(l []api.Axis) []api.Axis { return each(l, Axis) }

// Param copies a parameter.
func Param(p api.Param) api.Param {
	p.Dims = Lins(p.Dims)
	return p
}

// Def copies a definition.
func Def(d api.Def) api.Def {
	d.Dims, d.Red, d.Body = Axes(d.Dims), Axes(d.Red), Expr(d.Body)
	return d
}

// Prog copies a program.
func Prog(p api.Prog) api.Prog {
	return api.Prog{
		Sizes:  slices.Clone(p.Sizes),
		Where:  Constraints(p.Where),
		Params: each(p.Params, Param),
		Defs:   each(p.Defs, Def),
		Outs:   slices.Clone(p.Outs),
	}
}

// Stmt copies a statement.
func Stmt(s api.Stmt) api.Stmt {
	s.Idx, s.Expr, s.Body = Indices(s.Idx), Expr(s.Expr), Stmts(s.Body)
	return s
}

// Stmts copies statements.
func Stmts(l []api.Stmt) []api.Stmt { return each(l, Stmt) }

// Buffer copies a buffer.
func Buffer(b api.Buffer) api.Buffer {
	b.Dims = slices.Clone(b.Dims)
	return b
}

// Buffers copies buffers.
func Buffers(l []api.Buffer) []api.Buffer { return each(l, Buffer) }

// Nest copies a loop nest.
func Nest(n api.Nest) api.Nest {
	return api.Nest{Bufs: Buffers(n.Bufs), Body: Stmts(n.Body)}
}

// Tensor copies a tensor.
func Tensor(t api.Tensor) api.Tensor {
	return api.Tensor{Type: t.Type, Dims: slices.Clone(t.Dims), Vals: slices.Clone(t.Vals)}
}

// Named copies a named tensor.
func Named(t api.Named) api.Named {
	return api.Named{Name: t.Name, Tensor: Tensor(t.Tensor)}
}
