package dual

import (
	"slices"

	"brocade/api"
	"brocade/deep"
	"brocade/engine"
	"brocade/eval"
	"brocade/program"
	"brocade/shape"
	"brocade/tensor"
	"brocade/value"
)

// readsActive reports whether an active tensor is read in a value position.
func readsActive(e api.Expr, active map[string]bool) bool {
	if e.Op == api.ERead {
		return active[e.Name]
	}
	for i, a := range e.Args {
		if (e.Op != api.EIf || i > 0) && readsActive(a, active) {
			return true
		}
	}
	return false
}

// Differentiable looks for a conversion that loses a tangent.
func Differentiable(p api.Prog) (int, api.Errno) {
	if at, err := program.Validate(p); err != api.OK {
		return at, err
	}
	active := map[string]bool{}
	for _, x := range p.Params {
		active[x.Name] = x.Type.Kind == api.KFrac
	}
	for i, d := range p.Defs {
		if loses(p, program.IndexNames(d), d.Body, active) {
			return i, api.ErrGradient
		}
		active[d.Name] = d.Type.Kind == api.KFrac && readsActive(d.Body, active)
	}
	return 0, api.OK
}

// loses reports whether a node in a value position converts an active fraction to
// another type.
func loses(p api.Prog, vars []string, e api.Expr, active map[string]bool) bool {
	if e.Op == api.ECast && e.Type.Kind != api.KFrac && readsActive(e.Args[0], active) {
		if t, err := program.TypeOf(p, vars, e.Args[0]); err == api.OK && t.Kind == api.KFrac {
			return true
		}
	}
	for i, a := range e.Args {
		if (e.Op != api.EIf || i > 0) && loses(p, vars, a, active) {
			return true
		}
	}
	return false
}

// names looks up tensors, their tangents and index names.
type names struct {
	scope    *engine.Scope
	tangents map[string][]api.Val
}

// read returns an element with its tangent, and its type.
func (n names) read(e api.Expr) (Dual, api.Type, api.Errno) {
	t, err := n.scope.Tensor(e.Name)
	if err != api.OK {
		return Dual{}, api.Type{}, err
	}
	at, err := n.scope.Element(t, e.Idx)
	if err != api.OK {
		return Dual{}, api.Type{}, err
	}
	x := plain(t.Vals[at])
	if l := n.tangents[e.Name]; l != nil {
		x.B = l[at]
	}
	return x, t.Type, api.OK
}

// integer returns the value of an EIdx.
func (n names) integer(f api.Lin) (Dual, api.Errno) {
	v, err := n.scope.Integer(f)
	return plain(v), err
}

func plain(v api.Val) Dual { return Dual{v, api.Val{N: 0, D: 1}} }

// evaluator evaluates expressions. Values that are not fractions have the tangent 0.
type evaluator struct{ names }

func (r evaluator) expr(e api.Expr) (Dual, api.Type, api.Errno) {
	switch e.Op {
	case api.EVal:
		return plain(e.Val), e.Type, api.OK
	case api.EIdx:
		v, err := r.integer(e.Lin)
		return v, api.Type{Kind: api.KInt}, err
	case api.ERead:
		return r.read(e)
	case api.EIf:
		holds, err := r.condition(e.Args[0])
		if err != api.OK {
			return Dual{}, api.Type{}, err
		}
		if holds {
			return r.expr(e.Args[1])
		}
		return r.expr(e.Args[2])
	}
	a, t, err := r.expr(e.Args[0])
	if err != api.OK {
		return Dual{}, api.Type{}, err
	}
	if e.Op == api.ECast {
		return cast(a, t, e.Type)
	}
	b := a
	if e.Op != api.ENeg {
		if b, _, err = r.expr(e.Args[1]); err != api.OK {
			return Dual{}, api.Type{}, err
		}
	}
	v, err := apply(e.Op, t, a, b)
	return v, t, err
}

func cast(a Dual, from, to api.Type) (Dual, api.Type, api.Errno) {
	if from.Kind == api.KFrac && to.Kind == api.KFrac {
		return a, to, api.OK
	}
	v, err := value.Cast(from, to, a.A)
	return plain(v), to, err
}

func apply(op int, t api.Type, a, b Dual) (Dual, api.Errno) {
	if t.Kind == api.KFrac {
		return Apply(op, a, b)
	}
	v, err := value.Apply(op, t, a.A, b.A)
	return plain(v), err
}

func (r evaluator) condition(c api.Expr) (bool, api.Errno) {
	var sides []bool
	switch c.Op {
	case api.CAnd, api.COr, api.CNot:
		for _, a := range c.Args {
			holds, err := r.condition(a)
			if err != api.OK {
				return false, err
			}
			sides = append(sides, holds)
		}
	}
	switch c.Op {
	case api.CAnd:
		return sides[0] && sides[1], api.OK
	case api.COr:
		return sides[0] || sides[1], api.OK
	case api.CNot:
		return !sides[0], api.OK
	}
	a, t, err := r.expr(c.Args[0])
	if err != api.OK {
		return false, err
	}
	b, _, err := r.expr(c.Args[1])
	if err != api.OK {
		return false, err
	}
	return engine.Decide(c.Op, value.Compare(t, a.A, b.A)), api.OK
}

// define evaluates a definition and keeps its elements and tangents.
func (r evaluator) define(p api.Prog, sizes []api.Binding, def int) api.Errno {
	d := p.Defs[def]
	out, red, err := r.scope.Prepare(p, sizes, def)
	if err != api.OK {
		return err
	}
	load := r.scope.Loader(d, sizes)
	body := func(at, red []int) (Dual, api.Errno) {
		load(at, red)
		v, _, err := r.expr(d.Body)
		return v, err
	}
	combine := func(fold int, a, b Dual) (Dual, api.Errno) {
		if d.Type.Kind == api.KFrac {
			return Reduce(fold, a, b)
		}
		v, err := value.Reduce(fold, d.Type, a.A, b.A)
		return plain(v), err
	}
	l, err := engine.Elements(d, out, red, body, combine)
	if err != api.OK {
		return err
	}
	t := api.Tensor{Type: d.Type, Dims: out}
	var tangent []api.Val
	for _, x := range l {
		t.Vals = append(t.Vals, x.A)
		tangent = append(tangent, x.B)
	}
	r.scope.Define(d.Name, t)
	r.tangents[d.Name] = tangent
	return api.OK
}

// Run evaluates a program together with its derivative in a direction.
func Run(p api.Prog, sizes []api.Binding, ins, along []api.Named) ([]api.Named, []api.Named, api.Errno) {
	if _, err := Differentiable(p); err != api.OK {
		return nil, nil, err
	}
	if err := eval.CheckSizes(p, sizes); err != api.OK {
		return nil, nil, err
	}
	r := evaluator{names{engine.New(ins, nil), map[string][]api.Val{}}}
	for _, x := range p.Params {
		dims, err := engine.Dims(p, sizes, x.Name)
		if err != api.OK {
			return nil, nil, err
		}
		if err := r.scope.Provided(x.Name, x.Type, dims); err != api.OK {
			return nil, nil, err
		}
	}
	if err := r.directions(p, along); err != api.OK {
		return nil, nil, err
	}
	for i := range p.Defs {
		if err := r.define(p, sizes, i); err != api.OK {
			return nil, nil, err
		}
	}
	var outs, tangents []api.Named
	for _, name := range p.Outs {
		t, _ := r.scope.Tensor(name)
		outs = append(outs, deep.Named(api.Named{Name: name, Tensor: t}))
		if t.Type.Kind == api.KFrac {
			tangents = append(tangents, api.Named{Name: name, Tensor: r.tangent(name, t)})
		}
	}
	return outs, tangents, api.OK
}

// directions keeps the tangents of the parameters.
func (r evaluator) directions(p api.Prog, along []api.Named) api.Errno {
	for _, x := range p.Params {
		at := slices.IndexFunc(along, func(t api.Named) bool { return t.Name == x.Name })
		if x.Type.Kind != api.KFrac || at < 0 {
			continue
		}
		d := along[at].Tensor
		t, _ := r.scope.Tensor(x.Name)
		switch {
		case tensor.Validate(d) != api.OK:
			return api.ErrArg
		case d.Type.Kind != api.KFrac:
			return api.ErrType
		case !shape.Same(d.Dims, t.Dims):
			return api.ErrSize
		}
		r.tangents[x.Name] = d.Vals
	}
	return api.OK
}

// tangent returns the tangent of a tensor, which is zero if none is kept.
func (r evaluator) tangent(name string, t api.Tensor) api.Tensor {
	l := r.tangents[name]
	if l == nil {
		l = slices.Repeat([]api.Val{{N: 0, D: 1}}, len(t.Vals))
	}
	return deep.Tensor(api.Tensor{Type: t.Type, Dims: t.Dims, Vals: l})
}
