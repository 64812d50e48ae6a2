package shard_test

import (
	"math"
	"slices"
	"testing"

	"brocade/api"
	"brocade/mesh"
	"brocade/shape"
	"brocade/shard"
	"brocade/tensor"
)

func of(dims ...int) api.Mesh { return api.Mesh{Dims: dims} }

func count(dims ...int) api.Tensor {
	t := api.Tensor{Type: api.Type{Kind: api.KInt}, Dims: dims}
	for n := range shape.Size(dims) {
		t.Vals = append(t.Vals, api.Val{N: int64(n), D: 1})
	}
	return t
}

func TestErrors(t *testing.T) {
	for _, x := range []struct {
		m    api.Mesh
		dims []int
		s    api.Spec
		err  api.Errno
	}{{of(), []int{0}, nil, api.ErrMesh}, {of(2), []int{0}, nil, api.ErrArg}, {of(2), []int{5000}, nil, api.ErrLimit}, {of(2), []int{4}, nil, api.ErrSpec}, {of(2), []int{4}, api.Spec{0, -1}, api.ErrSpec}, {of(2), []int{4}, api.Spec{1}, api.ErrSpec}, {of(2), []int{4}, api.Spec{-2}, api.ErrSpec}, {of(2), []int{3, 4}, api.Spec{0, 0}, api.ErrSpec}, {of(2), []int{3}, api.Spec{0}, api.ErrSize}, {of(2, 3), []int{4, 4}, api.Spec{0, 1}, api.ErrSize}} {
		a, e1 := shard.LocalShape(x.m, x.dims, x.s)
		b, e2 := shard.Origin(x.m, x.dims, x.s, -1)
		c, e3 := shard.Gather(x.m, x.dims, x.s, nil)
		for i, e := range []api.Errno{shard.Validate(x.m, x.dims, x.s), e1, e2, e3} {
			if e != x.err {
				t.Errorf("%v: call %d returns %v", x, i, e)
			}
		}
		if len(a)+len(b)+len(c.Vals) != 0 {
			t.Errorf("%v: results beside an error", x)
		}
		if shape.Validate(x.dims) == api.OK {
			if l, err := shard.Scatter(x.m, count(x.dims...), x.s); err != x.err || len(l) != 0 {
				t.Errorf("Scatter(%v): %v", x, err)
			}
		}
	}
	if l, err := shard.Scatter(of(), api.Tensor{}, nil); err != api.ErrType || len(l) != 0 {
		t.Error(l, err)
	}
	for _, dev := range []int{-1, 2, math.MaxInt} {
		if p, err := shard.Origin(of(2), []int{4}, api.Spec{0}, dev); err != api.ErrBounds || len(p) != 0 {
			t.Error(p, err)
		}
	}
	for _, x := range []struct {
		m    api.Mesh
		s    api.Spec
		want int
	}{{of(2), api.Spec{0, -1}, 1}, {of(2), api.Spec{-1, -1}, 2}, {of(2), nil, 2}, {of(2, 3), api.Spec{1}, 2}, {of(2, 3, 2), api.Spec{-1, 0, -1, -1, -1, -1, -1, -1}, 6}, {of(), nil, 0}, {of(2), api.Spec{0, 0}, 0}, {of(2), api.Spec{1}, 0}, {of(2), api.Spec{-2}, 0}} {
		if got := shard.Replicas(x.m, x.s); got != x.want {
			t.Errorf("Replicas(%v, %v) = %d", x.m, x.s, got)
		}
	}
}

func TestBlocks(t *testing.T) {
	for _, x := range []struct {
		m api.Mesh
		t api.Tensor
		s api.Spec
	}{{of(2), count(4, 3), api.Spec{0, -1}}, {of(2), count(4, 6), api.Spec{-1, 0}}, {of(2, 3), count(6, 4), api.Spec{1, 0}}, {of(2, 3), count(6, 4), api.Spec{-1, 0}}, {of(2, 3), count(6, 4), api.Spec{-1, -1}}, {of(4), count(), api.Spec{}}, {of(2, 2, 2), count(2, 3, 4, 2), api.Spec{2, -1, 0, 1}}, {of(1), count(5), api.Spec{0}}} {
		local, err := shard.LocalShape(x.m, x.t.Dims, x.s)
		blocks, err2 := shard.Scatter(x.m, x.t, x.s)
		if err != api.OK || err2 != api.OK || len(blocks) != mesh.Devices(x.m) || len(blocks)*shape.Size(local) != len(x.t.Vals)*shard.Replicas(x.m, x.s) {
			t.Fatalf("%v: %v, %v", x, err, err2)
		}
		for dev, b := range blocks {
			origin, err := shard.Origin(x.m, x.t.Dims, x.s, dev)
			c, _ := mesh.Coordinates(x.m, dev)
			if err != api.OK || !shape.Same(b.Dims, local) || tensor.Validate(b) != api.OK {
				t.Errorf("%v: device %d: %v", x, dev, b)
			}
			for i, axis := range x.s {
				want := 0
				if axis >= 0 {
					want = c[axis] * (x.t.Dims[i] / x.m.Dims[axis])
				}
				if origin[i] != want {
					t.Errorf("%v: device %d: origin %v", x, dev, origin)
				}
			}
			for at, v := range b.Vals {
				p, _ := shape.Point(local, at)
				for i := range p {
					p[i] += origin[i]
				}
				if want, _ := tensor.At(x.t, p...); v != want {
					t.Errorf("%v: device %d at %v: %v", x, dev, p, v)
				}
			}
		}
		back, err := shard.Gather(x.m, x.t.Dims, x.s, blocks)
		again, _ := shard.Scatter(x.m, back, x.s)
		if err != api.OK || !tensor.Same(back, x.t) || !slices.EqualFunc(again, blocks, tensor.Same) {
			t.Errorf("%v: gathered %v, %v", x, back, err)
		}
	}
}

func TestGatherErrors(t *testing.T) {
	m, dims := of(2, 2), []int{4}
	good := func() []api.Tensor {
		l, _ := shard.Scatter(m, count(4), api.Spec{1})
		return l
	}
	for k, x := range []struct {
		change func(l []api.Tensor) []api.Tensor
		err    api.Errno
	}{
		{func(l []api.Tensor) []api.Tensor { return l }, 0}, {func(l []api.Tensor) []api.Tensor { return l[:3] }, api.ErrArg}, {func(l []api.Tensor) []api.Tensor { return append(l, l[0]) }, api.ErrArg}, {func(l []api.Tensor) []api.Tensor { l[1].Dims = nil; l[3] = api.Tensor{}; return l }, api.ErrArg}, {func(l []api.Tensor) []api.Tensor { l[1].Type.Kind = api.KFrac; l[3] = api.Tensor{}; return l }, api.ErrType}, {func(l []api.Tensor) []api.Tensor { l[1].Type.Kind = api.KFrac; l[0] = count(3); return l }, api.ErrSize}, {func(l []api.Tensor) []api.Tensor { l[1].Type.Kind = api.KFrac; l[2] = count(3); return l }, api.ErrType}, {func(l []api.Tensor) []api.Tensor { l[2] = count(3); return l }, api.ErrSize}, {func(l []api.Tensor) []api.Tensor { l[3].Vals[1].N = 9; return l }, api.ErrArg}, {func(l []api.Tensor) []api.Tensor { l[0].Vals[0].N = 9; return l }, api.ErrArg}, {func(l []api.Tensor) []api.Tensor { l[0].Vals[0].N, l[2].Vals[0].N = 9, 9; return l }, 0},
	} {
		if got, err := shard.Gather(m, dims, api.Spec{1}, x.change(good())); err != x.err || err != api.OK && len(got.Vals) != 0 {
			t.Errorf("change %d: %v, %v", k, got, err)
		}
	}
}
