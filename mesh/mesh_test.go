package mesh_test

import (
	"math"
	"slices"
	"testing"

	"brocade/api"
	"brocade/mesh"
)

func of(dims ...int) api.Mesh { return api.Mesh{Dims: dims} }

func TestInvalid(t *testing.T) {
	for _, m := range []api.Mesh{of(), of(1, 1, 1, 1), of(0), of(-1), of(2, 0), of(17), of(4, 5), of(2, 3, 3), of(math.MaxInt, math.MaxInt), of(1<<32, 1<<32), of(16, 2)} {
		p, ok := mesh.Coordinates(m, 0)
		d, ok2 := mesh.Device(m, make([]int, len(m.Dims)))
		if mesh.Validate(m) != api.ErrMesh || mesh.Devices(m) != 0 || len(p) != 0 || ok || d != 0 || ok2 || mesh.Group(m, 0, 0) != nil || mesh.Groups(m, 0) != nil {
			t.Errorf("%v must be invalid", m)
		}
	}
}

func TestMeshes(t *testing.T) {
	for _, m := range []api.Mesh{of(1), of(16), of(2, 3), of(3, 1, 4), of(2, 2, 4), of(1, 1, 1)} {
		many := 1
		for _, n := range m.Dims {
			many *= n
		}
		if mesh.Validate(m) != api.OK || mesh.Devices(m) != many {
			t.Errorf("%v: %d devices", m, mesh.Devices(m))
		}
		var last []int
		for dev := range many {
			p, ok := mesh.Coordinates(m, dev)
			back, ok2 := mesh.Device(m, p)
			if !ok || !ok2 || back != dev || dev > 0 && slices.Compare(last, p) >= 0 {
				t.Errorf("%v: device %d is %v, and back %d", m, dev, p, back)
			}
			last = p
		}
		for axis := range m.Dims {
			groups := mesh.Groups(m, axis)
			count, first := make([]int, many), -1
			for _, g := range groups {
				if len(g) != m.Dims[axis] || g[0] <= first {
					t.Errorf("%v, axis %d: %v", m, axis, groups)
				}
				first = g[0]
				for c, dev := range g {
					count[dev]++
					p, _ := mesh.Coordinates(m, dev)
					q, _ := mesh.Coordinates(m, g[0])
					q[axis] = c
					if !slices.Equal(p, q) || !slices.Equal(mesh.Group(m, axis, dev), g) {
						t.Errorf("%v, axis %d: device %d in %v", m, axis, dev, g)
					}
				}
			}
			if slices.ContainsFunc(count, func(n int) bool { return n != 1 }) {
				t.Errorf("%v, axis %d: %v", m, axis, groups)
			}
		}
		for _, dev := range []int{-1, many, math.MaxInt} {
			if p, ok := mesh.Coordinates(m, dev); ok || len(p) != 0 || mesh.Group(m, 0, dev) != nil {
				t.Errorf("%v has no device %d", m, dev)
			}
		}
		for _, axis := range []int{-1, len(m.Dims)} {
			if mesh.Group(m, axis, 0) != nil || mesh.Groups(m, axis) != nil {
				t.Errorf("%v has no axis %d", m, axis)
			}
		}
		for _, p := range [][]int{nil, make([]int, len(m.Dims)+1), m.Dims} {
			if dev, ok := mesh.Device(m, p); ok || dev != 0 {
				t.Errorf("%v has no device at %v", m, p)
			}
		}
	}
	if got := mesh.Groups(of(2, 3), 0); !slices.EqualFunc(got, [][]int{{0, 3}, {1, 4}, {2, 5}}, slices.Equal) {
		t.Error(got)
	}
}
