package program

import (
	"slices"

	"brocade/api"
	"brocade/expr"
)

// check returns the type of a whole expression.
func (s *scope) check(e api.Expr) (api.Type, api.Errno) {
	if err := expr.Validate(e); err != api.OK {
		return api.Type{}, err
	}
	if expr.IsCondition(e) {
		return api.Type{}, api.ErrType
	}
	t, err := s.typeOf(e)
	if err != api.OK {
		return api.Type{}, err
	}
	return t, api.OK
}

// typeOf returns the type of a node, after its operands. A condition has none.
func (s *scope) typeOf(e api.Expr) (api.Type, api.Errno) {
	args := make([]api.Type, len(e.Args))
	for i, a := range e.Args {
		t, err := s.typeOf(a)
		if err != api.OK {
			return api.Type{}, err
		}
		args[i] = t
	}
	switch e.Op {
	case api.EVal, api.ECast:
		return e.Type, api.OK
	case api.EIdx:
		return api.Type{Kind: api.KInt}, s.form(e.Lin)
	case api.ERead:
		return s.read(e)
	case api.ENeg:
		return args[0], api.OK
	case api.EIf:
		return args[1], equal(args[1], args[2])
	case api.EAdd, api.ESub, api.EMul, api.EDiv, api.EMin, api.EMax:
		return args[0], equal(args[0], args[1])
	case api.CLt, api.CLe, api.CEq:
		return api.Type{}, equal(args[0], args[1])
	}
	return api.Type{}, api.OK
}

func equal(a, b api.Type) api.Errno {
	if a != b {
		return api.ErrType
	}
	return api.OK
}

// form checks the names of a linear form.
func (s *scope) form(f api.Lin) api.Errno {
	if slices.ContainsFunc(f.L, func(m api.Mono) bool { return !s.vars[m.Name] && !s.sizes[m.Name] }) {
		return api.ErrNotFound
	}
	return api.OK
}

func (s *scope) read(e api.Expr) (api.Type, api.Errno) {
	t, known := s.tensors[e.Name]
	if !known {
		return api.Type{}, api.ErrNotFound
	}
	if len(e.Idx) != len(t.dims) {
		return api.Type{}, api.ErrRank
	}
	for _, x := range e.Idx {
		forms := []api.Lin{x.Lin}
		if x.From != "" {
			if err := s.gather(x); err != api.OK {
				return api.Type{}, err
			}
			forms = x.At
		}
		for _, f := range forms {
			if err := s.form(f); err != api.OK {
				return api.Type{}, err
			}
		}
	}
	return t.typ, api.OK
}

func (s *scope) gather(x api.Index) api.Errno {
	t, known := s.tensors[x.From]
	switch {
	case !known:
		return api.ErrNotFound
	case t.typ.Kind != api.KInt:
		return api.ErrType
	case len(x.At) != len(t.dims):
		return api.ErrRank
	}
	return api.OK
}
