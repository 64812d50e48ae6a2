package spmd

import (
	"slices"

	"brocade/api"
	"brocade/collective"
	"brocade/deep"
	"brocade/engine"
	"brocade/mesh"
	"brocade/shard"
	"brocade/value"
)

// ranges returns the starts and lengths of the local ranges of the variables.
func (r *inference) ranges(def, dev int) ([]int, []int) {
	l := r.defs[def]
	c, _ := mesh.Coordinates(r.m, dev)
	from, many := make([]int, len(l.axes)), slices.Clone(l.extents)
	for i, x := range l.axes {
		if x >= 0 {
			many[i] /= r.m.Dims[x]
			from[i] = c[x] * many[i]
		}
	}
	return from, many
}

// block evaluates a definition on one device.
func (r *inference) block(p api.Prog, sizes []api.Binding, def, dev int, s *engine.Scope) (api.Tensor, api.Errno) {
	if _, _, err := s.Prepare(p, sizes, def); err != api.OK {
		return api.Tensor{}, err
	}
	d := p.Defs[def]
	from, many := r.ranges(def, dev)
	rank := len(d.Dims)
	load := s.Loader(d, sizes)
	// The closure adds the start of the device's own ranges to each point.
	body := func(at, red []int) (api.Val, api.Errno) {
		load(shifted(at, from[:rank]), shifted(red, from[rank:]))
		v, _, err := s.Expr(d.Body)
		return v, err
	}
	combine := func(fold int, a, b api.Val) (api.Val, api.Errno) { return value.Reduce(fold, d.Type, a, b) }
	vals, err := engine.Elements(d, many[:rank], many[rank:], body, combine)
	if err != api.OK {
		return api.Tensor{}, err
	}
	return api.Tensor{Type: d.Type, Dims: many[:rank:rank], Vals: vals}, api.OK
}

func shifted(p, by []int) []int {
	q := make([]int, len(p))
	for i, x := range p {
		q[i] = x + by[i]
	}
	return q
}

// Compute evaluates a definition on one device.
func Compute(m api.Mesh, p api.Prog, sizes []api.Binding, ins []api.Spec, def, dev int, mem []api.Named) (api.Tensor, api.Errno) {
	r, err := infer(m, p, sizes, ins)
	switch {
	case err != api.OK:
		return api.Tensor{}, err
	case def < 0 || def >= len(p.Defs):
		return api.Tensor{}, api.ErrNotFound
	case dev < 0 || dev >= mesh.Devices(m):
		return api.Tensor{}, api.ErrMesh
	}
	return r.block(p, sizes, def, dev, engine.New(mem, nil))
}

// complete evaluates a definition on all devices and puts the blocks together.
func (r *inference) complete(p api.Prog, sizes []api.Binding, def int, s *engine.Scope) (api.Tensor, api.Errno) {
	d := p.Defs[def]
	blocks := make([]api.Tensor, mesh.Devices(r.m))
	for dev := range blocks {
		b, err := r.block(p, sizes, def, dev, s)
		if err != api.OK {
			return api.Tensor{}, err
		}
		blocks[dev] = b
	}
	for _, t := range r.defs[def].plan {
		if t.Op != api.LAllReduce {
			continue
		}
		next, err := collective.AllReduce(r.m, blocks, t.Mesh, d.Fold)
		if err != api.OK {
			return api.Tensor{}, err
		}
		blocks = next
	}
	return shard.Gather(r.m, r.dims[d.Name], r.specs[d.Name], blocks)
}

// Run executes a program on a mesh.
func Run(m api.Mesh, p api.Prog, sizes []api.Binding, ins []api.Spec, inputs []api.Named) ([]api.Named, int, api.Errno) {
	r, err := infer(m, p, sizes, ins)
	if err != api.OK {
		return nil, 0, err
	}
	s := engine.New(inputs, nil)
	for _, x := range p.Params {
		if err := s.Provided(x.Name, x.Type, r.dims[x.Name]); err != api.OK {
			return nil, 0, err
		}
	}
	transfers := 0
	for i, d := range p.Defs {
		t, err := r.complete(p, sizes, i, s)
		if err != api.OK {
			return nil, 0, err
		}
		s.Define(d.Name, t)
		transfers += len(r.defs[i].plan)
	}
	var outs []api.Named
	for _, name := range p.Outs {
		t, _ := s.Tensor(name)
		outs = append(outs, deep.Named(api.Named{Name: name, Tensor: t}))
	}
	return outs, transfers, api.OK
}
