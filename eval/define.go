package eval

import (
	"brocade/api"
	"brocade/box"
	"brocade/engine"
	"brocade/expr"
	"brocade/program"
	"brocade/value"
)

// define evaluates a definition of a checked program in a scope with what it reads.
func define(p api.Prog, sizes []api.Binding, s *engine.Scope, def int) (api.Tensor, api.Errno) {
	d := p.Defs[def]
	out, err := dims(p, sizes, d.Name)
	if err != api.OK {
		return api.Tensor{}, err
	}
	var forms []api.Lin
	for _, a := range d.Red {
		forms = append(forms, a.Size)
	}
	red, err := extents(forms, sizes)
	if err != api.OK {
		return api.Tensor{}, err
	}
	if box.Count(out)*box.Count(red) == 0 || box.Count(red) > api.MaxPoints/box.Count(out) {
		return api.Tensor{}, api.ErrLimit
	}
	for _, name := range expr.Reads(d.Body) {
		t, _, _ := program.Find(p, name)
		shape, err := dims(p, sizes, name)
		if err != api.OK {
			return api.Tensor{}, err
		}
		if err := provided(s, name, t, shape); err != api.OK {
			return api.Tensor{}, err
		}
	}
	vals, err := elements(d, out, bodyAt(s, d, sizes), red)
	if err != api.OK {
		return api.Tensor{}, err
	}
	return api.Tensor{Type: d.Type, Dims: out, Vals: vals}, api.OK
}

// body evaluates the body of a definition at a point of Dims and a point of Red.
type body func(at, red []int) (api.Val, api.Errno)

// bodyAt closes over the memory and the environment of the definition.
func bodyAt(s *engine.Scope, d api.Def, sizes []api.Binding) body {
	var env []api.Binding
	for _, n := range program.IndexNames(d) {
		env = append(env, api.Binding{Name: n})
	}
	many := len(d.Dims)
	env = append(env, sizes...)
	return func(at, red []int) (api.Val, api.Errno) {
		for i, x := range at {
			env[i].Val = int64(x)
		}
		for i, x := range red {
			env[many+i].Val = int64(x)
		}
		s.Env = env
		v, _, err := s.Expr(d.Body)
		return v, err
	}
}

// elements evaluates all points in order.
func elements(d api.Def, out []int, f body, red []int) ([]api.Val, api.Errno) {
	var vals []api.Val
	for p := range box.All(out) {
		v, err := reduced(d, f, p, red)
		if err == api.OK && d.Fold == api.FScan && p[len(p)-1] > 0 {
			v, err = value.Reduce(api.FSum, d.Type, vals[len(vals)-1], v)
		}
		if err != api.OK {
			return nil, err
		}
		vals = append(vals, v)
	}
	return vals, api.OK
}

// reduced folds the body over all points of Red.
func reduced(d api.Def, f body, p, red []int) (api.Val, api.Errno) {
	var total api.Val
	first := true
	for q := range box.All(red) {
		v, err := f(p, q)
		if err == api.OK && !first {
			v, err = value.Reduce(d.Fold, d.Type, total, v)
		}
		if err != api.OK {
			return api.Val{}, err
		}
		total, first = v, false
	}
	return total, api.OK
}
