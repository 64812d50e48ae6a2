package collective_test

import (
	"slices"
	"strings"
	"testing"

	"brocade/api"
	"brocade/collective"
	"brocade/mesh"
	"brocade/shape"
	"brocade/shard"
	"brocade/tensor"
)

func of(dims ...int) api.Mesh { return api.Mesh{Dims: dims} }

func ints(l ...int64) api.Tensor {
	t := api.Tensor{Type: api.Type{Kind: api.KInt}, Dims: []int{len(l)}}
	for _, n := range l {
		t.Vals = append(t.Vals, api.Val{N: n, D: 1})
	}
	return t
}

func count(dims ...int) api.Tensor {
	var l []int64
	for n := range shape.Size(dims) {
		l = append(l, int64(n))
	}
	t := ints(l...)
	t.Dims = dims
	return t
}

func show(l []api.Tensor) string {
	var r []string
	for _, t := range l {
		r = append(r, tensor.Format(t))
	}
	return strings.Join(r, " ")
}

func list(l ...api.Tensor) []api.Tensor { return l }

func TestOperations(t *testing.T) {
	two := list(ints(1, 2), ints(3, 4))
	four := list(ints(1, 2), ints(3, 4), ints(5, 6), ints(7, 8))
	gather, err := collective.AllGather(of(2), two, 0, 0)
	if show(gather) != "[1, 2, 3, 4] [1, 2, 3, 4]" || err != api.OK {
		t.Error(show(gather), err)
	}
	for _, x := range []struct {
		got  func() ([]api.Tensor, api.Errno)
		want string
	}{
		{func() ([]api.Tensor, api.Errno) { return collective.AllGather(of(2, 2), four, 0, 0) }, "[1, 2, 5, 6] [3, 4, 7, 8] [1, 2, 5, 6] [3, 4, 7, 8]"}, {func() ([]api.Tensor, api.Errno) { return collective.AllGather(of(2, 2), four, 1, 0) }, "[1, 2, 3, 4] [1, 2, 3, 4] [5, 6, 7, 8] [5, 6, 7, 8]"}, {func() ([]api.Tensor, api.Errno) { return collective.SliceLocal(of(2, 2), four, 1, 0) }, "[1] [4] [5] [8]"}, {func() ([]api.Tensor, api.Errno) { return collective.SliceLocal(of(2, 2), four, 0, 0) }, "[1] [3] [6] [8]"},
		{func() ([]api.Tensor, api.Errno) { return collective.AllReduce(of(2), two, 0, api.FSum) }, "[4, 6] [4, 6]"}, {func() ([]api.Tensor, api.Errno) { return collective.AllReduce(of(2, 2), four, 0, api.FProd) }, "[5, 12] [21, 32] [5, 12] [21, 32]"}, {func() ([]api.Tensor, api.Errno) { return collective.AllReduce(of(2, 2), four, 1, api.FMin) }, "[1, 2] [1, 2] [5, 6] [5, 6]"}, {func() ([]api.Tensor, api.Errno) { return collective.AllReduce(of(2, 2), four, 1, api.FMax) }, "[3, 4] [3, 4] [7, 8] [7, 8]"}, {func() ([]api.Tensor, api.Errno) { return collective.ReduceScatter(of(2), two, 0, 0, api.FSum) }, "[4] [6]"}, {func() ([]api.Tensor, api.Errno) { return collective.AllToAll(of(2), two, 0, 0, 0) }, "[1, 2] [3, 4]"},
		{func() ([]api.Tensor, api.Errno) {
			return collective.AllToAll(of(2), list(count(1, 2), count(1, 2)), 0, 0, 1)
		}, "[[0], [0]] [[1], [1]]"},
	} {
		if got, err := x.got(); show(got) != x.want || err != api.OK {
			t.Errorf("%s, %v; want %s", show(got), err, x.want)
		}
	}
	got, _ := collective.AllReduce(of(1), list(ints(1)), 0, api.FSum)
	got[0].Vals[0].N = 9
	if two[0].Vals[0].N != 1 {
		t.Error("shared memory")
	}
	// Groups are combined in their order: saturation shows it.
	fix := api.Type{Kind: api.KFix, Bits: 8, Frac: 4, Round: api.REven, Over: api.OSat}
	l := list(ints(120), ints(20), ints(-30))
	for i := range l {
		l[i].Type = fix
	}
	if got, err := collective.AllReduce(of(3), l, 0, api.FSum); err != api.OK || got[2].Vals[0].N != 97 {
		t.Error(got, err)
	}
}

func TestErrors(t *testing.T) {
	frac := ints(1, 2)
	frac.Type.Kind = api.KFrac
	bad := ints(1, 2)
	bad.Vals = nil
	for k, x := range []struct {
		m   api.Mesh
		l   []api.Tensor
		err api.Errno
	}{{of(), nil, api.ErrMesh}, {of(2), list(ints(1)), api.ErrArg}, {of(2), nil, api.ErrArg}, {of(2), list(frac, bad), api.ErrArg}, {of(3), list(ints(1, 2), frac, ints(1)), api.ErrType}, {of(3), list(ints(1, 2), ints(1), frac), api.ErrSize}, {of(2), list(ints(1, 2), api.Tensor{}), api.ErrType}} {
		_, e1 := collective.AllGather(x.m, x.l, 9, 9)
		_, e2 := collective.SliceLocal(x.m, x.l, 9, 9)
		_, e3 := collective.AllReduce(x.m, x.l, 9, 9)
		_, e4 := collective.ReduceScatter(x.m, x.l, 9, 9, 9)
		_, e5 := collective.AllToAll(x.m, x.l, 9, 9, 9)
		_, many, e6 := collective.Reshard(x.m, x.l, nil, nil)
		for i, e := range []api.Errno{e1, e2, e3, e4, e5, e6} {
			if e != x.err || many != 0 {
				t.Errorf("case %d: call %d returns %v; want %v", k, i, e, x.err)
			}
		}
	}
	two := list(ints(1, 2, 3), ints(3, 4, 5))
	for _, x := range []struct {
		axis, along, fold int
		gather, cut, red  api.Errno
	}{{1, 0, api.FSum, api.ErrMesh, api.ErrMesh, api.ErrMesh}, {-1, 5, 9, api.ErrMesh, api.ErrMesh, api.ErrMesh}, {0, 1, 9, api.ErrRank, api.ErrRank, api.ErrArg}, {0, -1, api.FNone, api.ErrRank, api.ErrRank, api.ErrArg}, {0, 0, api.FScan, 0, api.ErrSize, api.ErrArg}} {
		_, e1 := collective.AllGather(of(2), two, x.axis, x.along)
		_, e2 := collective.SliceLocal(of(2), two, x.axis, x.along)
		_, e3 := collective.AllReduce(of(2), two, x.axis, x.fold)
		_, e4 := collective.ReduceScatter(of(2), two, x.axis, x.along, x.fold)
		if e1 != x.gather || e2 != x.cut || e3 != x.red || e4 != x.red {
			t.Errorf("%v: %v, %v, %v, %v", x, e1, e2, e3, e4)
		}
	}
	if _, err := collective.ReduceScatter(of(2), two, 0, 0, api.FSum); err != api.ErrSize {
		t.Error(err)
	}
	if _, err := collective.ReduceScatter(of(2), two, 0, 1, api.FSum); err != api.ErrRank {
		t.Error(err)
	}
	if _, err := collective.AllToAll(of(2), two, 0, 0, 1); err != api.ErrRank {
		t.Error(err)
	}
	if _, err := collective.AllGather(of(2), list(count(4096), count(4096)), 0, 0); err != api.ErrLimit {
		t.Error(err)
	}
	if l, err := collective.AllReduce(of(2), list(ints(api.MaxNum), ints(1)), 0, api.FSum); err != api.ErrRange || len(l) != 0 {
		t.Error(l, err)
	}
}

func TestPlan(t *testing.T) {
	const a, g, s = api.LAllToAll, api.LAllGather, api.LSlice
	tr := func(op, x, from, to int) api.Transfer {
		return api.Transfer{Op: op, Mesh: x, From: from, To: to}
	}
	for _, x := range []struct {
		from, to api.Spec
		want     []api.Transfer
	}{
		{api.Spec{0, -1}, api.Spec{-1, 0}, []api.Transfer{tr(a, 0, 0, 1)}}, {api.Spec{-1, 0}, api.Spec{0, -1}, []api.Transfer{tr(a, 0, 1, 0)}}, {api.Spec{0}, api.Spec{-1}, []api.Transfer{tr(g, 0, 0, 0)}}, {api.Spec{-1}, api.Spec{0}, []api.Transfer{tr(s, 0, 0, 0)}}, {api.Spec{0, 1}, api.Spec{1, 0}, []api.Transfer{tr(g, 0, 0, 0), tr(g, 1, 1, 1), tr(s, 1, 0, 0), tr(s, 0, 1, 1)}}, {api.Spec{0, 1, -1}, api.Spec{-1, 0, 1}, []api.Transfer{tr(g, 0, 0, 0), tr(a, 1, 1, 2), tr(s, 0, 1, 1)}}, {api.Spec{0, -1}, api.Spec{2, 0}, []api.Transfer{tr(a, 0, 0, 1), tr(s, 2, 0, 0)}}, {api.Spec{0, 1}, api.Spec{0, 1}, nil}, {nil, nil, nil},
		{api.Spec{0}, api.Spec{0, -1}, nil}, {api.Spec{0, 0}, api.Spec{-1, -1}, nil}, {api.Spec{0, 1}, api.Spec{2, 2}, nil}, {api.Spec{-2}, api.Spec{0}, nil}, {api.Spec{0}, api.Spec{-2}, nil},
	} {
		if got := collective.Plan(x.from, x.to); !slices.Equal(got, x.want) {
			t.Errorf("Plan(%v, %v) = %v", x.from, x.to, got)
		}
	}
}

// TestReshard holds P53.6 for all specs of some shapes.
func TestReshard(t *testing.T) {
	for _, m := range []api.Mesh{of(2), of(2, 3)} {
		whole := count(6, 12)
		var specs []api.Spec
		for x := -1; x < len(m.Dims); x++ {
			for y := -1; y < len(m.Dims); y++ {
				if x != y || x < 0 {
					specs = append(specs, api.Spec{x, y})
				}
			}
		}
		for _, from := range specs {
			for _, to := range specs {
				l, _ := shard.Scatter(m, whole, from)
				want, _ := shard.Scatter(m, whole, to)
				got, many, err := collective.Reshard(m, l, from, to)
				if !slices.EqualFunc(got, want, tensor.Same) || many != len(collective.Plan(from, to)) || err != api.OK {
					t.Errorf("%v: %v to %v: %s, %d, %v", m, from, to, show(got), many, err)
				}
			}
			for axis := range m.Dims {
				l, _ := shard.Scatter(m, whole, from)
				g, err := collective.AllGather(m, l, axis, 1)
				back, err2 := collective.SliceLocal(m, g, axis, 1)
				if !slices.EqualFunc(back, l, tensor.Same) || err != api.OK || err2 != api.OK {
					t.Errorf("%v, %v, axis %d: %v, %v", m, from, axis, err, err2)
				}
				r, _ := collective.AllReduce(m, l, axis, api.FSum)
				for dev := range r {
					if first := mesh.Group(m, axis, dev)[0]; !tensor.Same(r[dev], r[first]) {
						t.Errorf("%v: devices %d and %d differ", m, dev, first)
					}
				}
			}
		}
	}
	two := list(count(4, 3), count(4, 3))
	for _, x := range []struct {
		l        []api.Tensor
		from, to api.Spec
		err      api.Errno
	}{{two, api.Spec{0}, api.Spec{-1, -1}, api.ErrSpec}, {two, api.Spec{0, -1}, api.Spec{0}, api.ErrSpec}, {two, api.Spec{0, 0}, api.Spec{-1, -1}, api.ErrSpec}, {two, api.Spec{1, -1}, api.Spec{-1, -1}, api.ErrSpec}, {two, api.Spec{-1, -1}, api.Spec{-1, -2}, api.ErrSpec}, {two, api.Spec{-1, -1}, api.Spec{-1, 1}, api.ErrSpec}, {two, api.Spec{-1, -1}, api.Spec{-1, 0}, api.ErrSize}, {list(count(4096), count(4096)), api.Spec{0}, api.Spec{0}, api.ErrLimit}, {list(count(3, 1), count(3, 1)), api.Spec{0, -1}, api.Spec{-1, 0}, api.ErrSize}} {
		if l, many, err := collective.Reshard(of(2), x.l, x.from, x.to); err != x.err || many != 0 || len(l) != 0 {
			t.Errorf("Reshard(%v, %v) = %d, %v; want %v", x.from, x.to, many, err, x.err)
		}
	}
}
