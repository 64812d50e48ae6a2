// Package engine evaluates valid expressions in a memory that is checked once, for all layers that run programs or loop nests.
package engine

import (
	"brocade/api"
	"brocade/lin"
	"brocade/tensor"
	"brocade/value"
)

// Scope looks names up in a memory and an environment. The first entry of a name counts.
type Scope struct {
	// Env may be changed between evaluations.
	Env     []api.Binding
	tensors map[string]*entry
}

// entry is a tensor, and what checking it told.
type entry struct {
	tensor  api.Tensor
	checked bool
	err     api.Errno
}

// New returns a scope for a memory, which is not checked before it is used.
func New(mem []api.Named, env []api.Binding) *Scope {
	s := &Scope{Env: env, tensors: map[string]*entry{}}
	for _, t := range mem {
		if _, known := s.tensors[t.Name]; !known {
			s.tensors[t.Name] = &entry{tensor: t.Tensor}
		}
	}
	return s
}

// Define makes a tensor that is known to be valid the one with a name.
func (s *Scope) Define(name string, t api.Tensor) {
	s.tensors[name] = &entry{tensor: t, checked: true}
}

// Tensor returns the tensor with a name.
func (s *Scope) Tensor(name string) (api.Tensor, api.Errno) {
	e, known := s.tensors[name]
	if !known {
		return api.Tensor{}, api.ErrNotFound
	}
	if !e.checked {
		e.checked = true
		if tensor.Validate(e.tensor) != api.OK {
			e.err = api.ErrArg
		}
	}
	return e.tensor, e.err
}

// Form returns the value of a linear form.
func (s *Scope) Form(f api.Lin) (int64, api.Errno) { return lin.Eval(f, s.Env) }

// Element returns the offset of the element of a tensor at an index list.
func (s *Scope) Element(t api.Tensor, idx []api.Index) (int, api.Errno) {
	if len(idx) != len(t.Dims) {
		return 0, api.ErrRank
	}
	at := 0
	for i, x := range idx {
		n, err := s.Index(x, t.Dims[i])
		if err != api.OK {
			return 0, err
		}
		if n < 0 || n >= int64(t.Dims[i]) {
			return 0, api.ErrBounds
		}
		at = at*t.Dims[i] + int(n)
	}
	return at, api.OK
}

// Index returns the value of an index along an axis with an extent.
func (s *Scope) Index(x api.Index, extent int) (int64, api.Errno) {
	if x.From == "" {
		return s.Form(x.Lin)
	}
	t, err := s.Tensor(x.From)
	switch {
	case err != api.OK:
		return 0, err
	case t.Type.Kind != api.KInt:
		return 0, api.ErrType
	case len(x.At) != len(t.Dims):
		return 0, api.ErrRank
	}
	at := 0
	for i, f := range x.At {
		n, err := s.Form(f)
		if err != api.OK {
			return 0, err
		}
		if n < 0 || n >= int64(t.Dims[i]) {
			return 0, api.ErrBounds
		}
		at = at*t.Dims[i] + int(n)
	}
	return min(max(t.Vals[at].N, 0), int64(extent-1)), api.OK
}

// Read returns an element and its type.
func (s *Scope) Read(e api.Expr) (api.Val, api.Type, api.Errno) {
	t, err := s.Tensor(e.Name)
	if err != api.OK {
		return api.Val{}, api.Type{}, err
	}
	at, err := s.Element(t, e.Idx)
	if err != api.OK {
		return api.Val{}, api.Type{}, err
	}
	return t.Vals[at], t.Type, api.OK
}

// Integer returns the value of an EIdx.
func (s *Scope) Integer(f api.Lin) (api.Val, api.Errno) {
	n, err := s.Form(f)
	if err != api.OK {
		return api.Val{}, err
	}
	if n < -api.MaxNum || n > api.MaxNum {
		return api.Val{}, api.ErrRange
	}
	return api.Val{N: n, D: 1}, api.OK
}

// Expr returns the value and the type of a valid expression that is not a condition.
func (s *Scope) Expr(e api.Expr) (api.Val, api.Type, api.Errno) {
	switch e.Op {
	case api.EVal:
		return e.Val, e.Type, api.OK
	case api.EIdx:
		v, err := s.Integer(e.Lin)
		return v, api.Type{Kind: api.KInt}, err
	case api.ERead:
		return s.Read(e)
	case api.EIf:
		holds, err := s.Condition(e.Args[0])
		if err != api.OK {
			return api.Val{}, api.Type{}, err
		}
		if holds {
			return s.Expr(e.Args[1])
		}
		return s.Expr(e.Args[2])
	}
	a, t, err := s.Expr(e.Args[0])
	if err != api.OK {
		return api.Val{}, api.Type{}, err
	}
	switch e.Op {
	case api.ENeg:
		v, err := value.Apply(api.ENeg, t, a, a)
		return v, t, err
	case api.ECast:
		v, err := value.Cast(t, e.Type, a)
		return v, e.Type, err
	}
	b, u, err := s.Expr(e.Args[1])
	if err != api.OK {
		return api.Val{}, api.Type{}, err
	}
	if t != u {
		return api.Val{}, api.Type{}, api.ErrType
	}
	v, err := value.Apply(e.Op, t, a, b)
	return v, t, err
}

// Condition reports whether a valid condition holds.
func (s *Scope) Condition(c api.Expr) (bool, api.Errno) {
	switch c.Op {
	case api.CAnd, api.COr:
		a, err := s.Condition(c.Args[0])
		if err != api.OK {
			return false, err
		}
		b, err := s.Condition(c.Args[1])
		if err != api.OK {
			return false, err
		}
		return a && b || c.Op == api.COr && (a || b), api.OK
	case api.CNot:
		a, err := s.Condition(c.Args[0])
		return !a && err == api.OK, err
	}
	a, t, err := s.Expr(c.Args[0])
	if err != api.OK {
		return false, err
	}
	b, u, err := s.Expr(c.Args[1])
	if err != api.OK {
		return false, err
	}
	if t != u {
		return false, api.ErrType
	}
	return Decide(c.Op, value.Compare(t, a, b)), api.OK
}

// Decide reports whether a comparison holds, given the order of its operands.
func Decide(op, order int) bool {
	switch op {
	case api.CLt:
		return order < 0
	case api.CLe:
		return order <= 0
	}
	return order == 0
}
