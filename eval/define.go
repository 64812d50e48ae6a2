package eval

import (
	"brocade/api"
	"brocade/engine"
	"brocade/value"
)

// define evaluates a definition of a checked program in a scope with what it reads.
func define(p api.Prog, sizes []api.Binding, s *engine.Scope, def int) (api.Tensor, api.Errno) {
	d := p.Defs[def]
	out, red, err := s.Prepare(p, sizes, def)
	if err != api.OK {
		return api.Tensor{}, err
	}
	load := s.Loader(d, sizes)
	body := func(at, red []int) (api.Val, api.Errno) {
		load(at, red)
		v, _, err := s.Expr(d.Body)
		return v, err
	}
	combine := func(fold int, a, b api.Val) (api.Val, api.Errno) { return value.Reduce(fold, d.Type, a, b) }
	vals, err := engine.Elements(d, out, red, body, combine)
	if err != api.OK {
		return api.Tensor{}, err
	}
	return api.Tensor{Type: d.Type, Dims: out, Vals: vals}, api.OK
}
