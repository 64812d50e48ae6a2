package spmd_test

import (
	"slices"
	"strconv"
	"strings"
	"testing"

	"brocade/api"
	"brocade/eval"
	"brocade/parser"
	"brocade/shape"
	"brocade/spmd"
	"brocade/tensor"
)

func of(dims ...int) api.Mesh { return api.Mesh{Dims: dims} }

func parse(t *testing.T, s string) api.Prog {
	t.Helper()
	p, at, err := parser.Prog(s)
	if err != api.OK {
		t.Fatalf("%q: %d, %v", s, at, err)
	}
	return p
}

func bind(n int64) []api.Binding { return []api.Binding{{Name: "n", Val: n}} }

const head = "size n; in a: frac[n, n]; in b: frac[n, n]; in t: int[n]; "

func specs(l ...api.Spec) []api.Spec { return l }

var none = api.Spec{-1, -1}

func tr(op, x, at int, name string) api.Transfer {
	return api.Transfer{Op: op, Mesh: x, From: at, To: at, Name: name}
}

func TestInfer(t *testing.T) {
	const g, r = api.LAllGather, api.LAllReduce
	for _, x := range []struct {
		s     string
		m     api.Mesh
		ins   []api.Spec
		specs []api.Spec
		plan  []api.Transfer
	}{
		{"def c: frac[i < n, j < n] = sum k < n: a[i, k] * b[k, j];", of(2), specs(api.Spec{0, -1}, none, api.Spec{-1}), specs(api.Spec{0, -1}), nil}, {"def c: frac[i < n, j < n] = sum k < n: a[i, k] * b[k, j];", of(2), specs(api.Spec{-1, 0}, api.Spec{0, -1}, api.Spec{-1}), specs(none), []api.Transfer{tr(r, 0, 0, "c")}}, {"def c: frac[i < n, j < n] = sum k < n: a[i, k] * b[k, j];", of(2), specs(api.Spec{0, -1}, api.Spec{0, -1}, api.Spec{-1}), specs(api.Spec{0, -1}), []api.Transfer{tr(g, 0, 0, "b")}}, {"def c: frac[i < n, j < n] = sum k < n: a[i, k] * b[k, j];", of(2, 2), specs(api.Spec{0, 1}, api.Spec{1, 0}, api.Spec{-1}), specs(api.Spec{0, -1}), []api.Transfer{tr(g, 0, 1, "b"), tr(r, 1, 0, "c")}},
		{"def d: frac[i < n] = a[i, i] + a[0, i];", of(2), specs(api.Spec{0, -1}, none, api.Spec{-1}), specs(api.Spec{0}), []api.Transfer{tr(g, 0, 0, "a")}}, {"def d: frac[i < n] = a[i, t[i]] + a[i, t[0]];", of(2), specs(api.Spec{0, -1}, none, api.Spec{0}), specs(api.Spec{0}), []api.Transfer{tr(g, 0, 0, "t")}}, {"def d: int[i < n] = t[i] + cast(int, a[0, t[i]]);", of(2), specs(none, none, api.Spec{0}), specs(api.Spec{0}), []api.Transfer{tr(g, 0, 0, "t")}}, {"def d: frac[i < n] = scan: a[i, 0];", of(2), specs(api.Spec{0, -1}, none, api.Spec{-1}), specs(api.Spec{-1}), []api.Transfer{tr(g, 0, 0, "a")}}, {"def d: frac[i < n, j < n] = scan: a[i, j];", of(2), specs(api.Spec{0, -1}, none, api.Spec{-1}), specs(api.Spec{0, -1}), nil}, {"def d: fix(8, 4, even, sat)[] = sum i < n: cast(fix(8, 4, even, sat), a[i, 0]);", of(2), specs(api.Spec{0, -1}, none, api.Spec{-1}), specs(nil), []api.Transfer{tr(g, 0, 0, "a")}}, {"def d: fix(8, 4, even, sat)[] = max i < n: cast(fix(8, 4, even, sat), a[i, 0]);", of(2), specs(api.Spec{0, -1}, none, api.Spec{-1}), specs(nil), []api.Transfer{tr(r, 0, 0, "d")}},
		{"def d: frac[i < 2] = a[i, 0];", of(2), specs(api.Spec{0, -1}, none, api.Spec{-1}), specs(api.Spec{-1}), []api.Transfer{tr(g, 0, 0, "a")}}, {"def d: frac[i < n] = a[i + 0, 0] + a[n - 1 - i, 0];", of(2), specs(api.Spec{0, -1}, none, api.Spec{-1}), specs(api.Spec{0}), []api.Transfer{tr(g, 0, 0, "a")}}, {"def d: frac[i < n] = if(b[i, 0] < b[i, 1], a[0, i], b[i, 2]); def e: frac[j < n] = d[j] * a[0, j];", of(2, 2), specs(api.Spec{-1, 1}, api.Spec{0, -1}, api.Spec{-1}), specs(api.Spec{0}, api.Spec{0}), []api.Transfer{tr(g, 1, 1, "a"), tr(g, 1, 1, "a")}}, {"def e: frac[j < n, k < n] = a[0, j] * a[0, k];", of(2), specs(api.Spec{-1, 0}, none, api.Spec{-1}), specs(api.Spec{0, -1}), []api.Transfer{tr(g, 0, 1, "a")}},
	} {
		got, plan, err := spmd.Infer(x.m, parse(t, head+x.s), bind(4), x.ins)
		if !slices.EqualFunc(got, x.specs, func(a, b api.Spec) bool { return slices.Equal(a, b) }) || !slices.Equal(plan, x.plan) || err != api.OK {
			t.Errorf("%q with %v: %v, %v, %v; want %v, %v", x.s, x.ins, got, plan, err, x.specs, x.plan)
		}
	}
}

func count(dims ...int) api.Tensor {
	t := api.Tensor{Type: api.Type{Kind: api.KFrac}, Dims: dims}
	for n := range shape.Size(dims) {
		t.Vals = append(t.Vals, api.Val{N: int64(n*n%7 - 2), D: 1})
	}
	return t
}

func inputs() []api.Named {
	x := count(4)
	x.Type.Kind = api.KInt
	return []api.Named{{Name: "t", Tensor: x}, {Name: "b", Tensor: count(4, 4)}, {Name: "a", Tensor: count(4, 4)}}
}

func show(l []api.Named) string {
	var b strings.Builder
	for _, x := range l {
		b.WriteString(x.Name + "=" + tensor.Format(x.Tensor) + ";")
	}
	return b.String()
}

// TestRun holds 54.4 for many specs.
func TestRun(t *testing.T) {
	for _, s := range []string{
		"def c: frac[i < n, j < n] = sum k < n: a[i, k] * b[k, j]; out c;", "def c: frac[i < n, j < n] = scan: a[i, j] - b[j, i]; def d: frac[i < n] = max j < n, k < n: c[j, i] * c[i, k]; out d, c, t;", "def c: frac[i < n] = a[i, t[i]] + b[t[n - 1 - i], i]; def d: fix(8, 4, even, sat)[] = sum i < n: cast(fix(8, 4, even, sat), c[i] / frac(3)); def e: frac[] = prod i < n, j < n: a[i, j] + frac(3); out c, d, e;", "def c: frac[i < n] = min j < n: if([i] < [j], a[i, j], b[j, i]); def d: frac[] = sum i < n: c[i] * a[i, i]; out d;", "def c: frac[i < n] = frac(1) / (a[i, 0] + frac(2)); out c;", "def c: frac[i < n] = a[i + 1, 0]; out c;",
	} {
		p := parse(t, head+s)
		want, err := eval.Run(p, bind(4), inputs())
		for _, m := range []api.Mesh{of(1), of(2), of(4), of(2, 2), of(2, 4)} {
			for x := -1; x < len(m.Dims); x++ {
				for y := -1; y < len(m.Dims); y++ {
					if x == y && x >= 0 {
						continue
					}
					for _, ins := range [][]api.Spec{{{x, y}, none, {-1}}, {{x, y}, {y, x}, {x}}, {none, {x, y}, {y}}} {
						got, transfers, err2 := spmd.Run(m, p, bind(4), ins, inputs())
						_, plan, err3 := spmd.Infer(m, p, bind(4), ins)
						if err3 != api.OK || (err == api.OK) != (err2 == api.OK) || show(got) != show(want) || err2 == api.OK && transfers != len(plan) {
							t.Errorf("%q, %v, %v: %s, %d, %v; want %s, %v", s, m, ins, show(got), transfers, err2, show(want), err)
						}
						if x == -1 && y == -1 && (len(plan) > 0 || err2 != err) {
							t.Errorf("%q, %v: %v, %v", s, m, plan, err2)
						}
					}
				}
			}
		}
	}
}

func TestCompute(t *testing.T) {
	p := parse(t, head+"def c: frac[i < n] = sum k < n: a[i, k]; def d: frac[] = sum i < n: c[i]; def e: frac[i < 4096] = sum k < 17: c[0]; def f: frac[i < n] = c[i] / a[0, i];")
	m, ins := of(2, 2), specs(api.Spec{0, 1}, none, api.Spec{-1})
	mem := append(inputs(), api.Named{Name: "c", Tensor: count(4)})
	a := count(4, 4)
	for dev := range 4 {
		// A device has two rows and two columns of a, and returns its partial sums.
		var want []string
		for i := 2 * (dev / 2); i < 2*(dev/2)+2; i++ {
			at := 4*i + 2*(dev%2)
			want = append(want, strconv.FormatInt(a.Vals[at].N+a.Vals[at+1].N, 10))
		}
		got, err := spmd.Compute(m, p, bind(4), ins, 0, dev, mem)
		if tensor.Format(got) != "["+strings.Join(want, ", ")+"]" || err != api.OK {
			t.Errorf("device %d: %s, %v; want %v", dev, tensor.Format(got), err, want)
		}
		// c is sharded over axis 0, so that d has partial sums of two elements.
		c := count(4).Vals[2*(dev/2):]
		got, err = spmd.Compute(m, p, bind(4), ins, 1, dev, mem)
		if tensor.Format(got) != strconv.FormatInt(c[0].N+c[1].N, 10) || err != api.OK {
			t.Errorf("device %d: %s, %v", dev, tensor.Format(got), err)
		}
	}
	short := inputs()
	short[2].Tensor = count(2, 2)
	other := inputs()
	other[2].Tensor.Type.Kind = api.KInt
	for _, x := range []struct {
		m        api.Mesh
		n        int64
		ins      []api.Spec
		def, dev int
		mem      []api.Named
		err      api.Errno
	}{
		{of(), 0, nil, 9, 9, nil, api.ErrMesh}, {m, 0, nil, 9, 9, nil, api.ErrSize}, {m, 4, nil, 9, 9, nil, api.ErrSpec}, {m, 4, ins[:2], 9, 9, nil, api.ErrSpec}, {m, 3, ins, 9, 9, nil, api.ErrSize}, {m, 4, specs(api.Spec{0, 0}, none, api.Spec{-1}), 9, 9, nil, api.ErrSpec}, {m, 4, ins, 4, 9, nil, api.ErrNotFound}, {m, 4, ins, -1, 9, nil, api.ErrNotFound}, {m, 4, ins, 0, 4, nil, api.ErrMesh}, {m, 4, ins, 0, -1, nil, api.ErrMesh}, {m, 4, ins, 0, 0, nil, api.ErrNotFound}, {m, 4, ins, 0, 0, []api.Named{{Name: "a"}}, api.ErrArg}, {m, 4, ins, 0, 0, other, api.ErrType}, {m, 4, ins, 0, 0, short, api.ErrSize}, {m, 4, ins, 2, 0, mem, api.ErrLimit}, {m, 4, ins, 2, 0, nil, api.ErrLimit}, {m, 4, ins, 3, 0, append(slices.Clone(mem[:2]), api.Named{Name: "a", Tensor: zeros()}, mem[3]), api.ErrDivide},
	} {
		if got, err := spmd.Compute(x.m, p, bind(x.n), x.ins, x.def, x.dev, x.mem); err != x.err || len(got.Vals) != 0 {
			t.Errorf("Compute(%v, n %d, %d, %d) = %v, %v; want %v", x.m, x.n, x.def, x.dev, got, err, x.err)
		}
	}
}

func zeros() api.Tensor {
	t := count(4, 4)
	for i := range t.Vals {
		t.Vals[i].N = 0
	}
	return t
}

func TestErrors(t *testing.T) {
	ins := specs(none, none, api.Spec{-1})
	for _, x := range []struct {
		s      string
		m      api.Mesh
		n      int64
		ins    []api.Spec
		inputs []api.Named
		err    api.Errno
	}{
		{"out q;", of(), 0, nil, nil, api.ErrMesh}, {"out q;", of(2), 0, nil, nil, api.ErrNotFound}, {"", of(2), 0, nil, nil, api.ErrSize}, {"", of(2), 4, nil, nil, api.ErrSpec}, {"in z: int[n - 4];", of(2), 4, append(slices.Clone(ins), nil), nil, api.ErrSize}, {"in z: int[n - 4];", of(2), 4, specs(api.Spec{5, 5}, none, api.Spec{-1}, nil), nil, api.ErrSpec}, {"def c: int[i < n - 4] = int(1);", of(2), 4, ins, nil, api.ErrSize}, {"def c: int[] = sum i < n - 4: int(1);", of(2), 4, ins, nil, api.ErrSize}, {"def c: int[] = sum i < 9223372036854775807*n: int(1);", of(2), 4, ins, nil, api.ErrRange}, {"def c: int[] = int(1) / int(0);", of(2), 4, ins, nil, api.ErrNotFound}, {"def c: int[] = int(1) / int(0);", of(2), 4, ins, inputs(), api.ErrDivide}, {"def c: frac[] = sum i < n: frac(1073741823) * a[i, 0] * a[i, 0];", of(2), 4, specs(api.Spec{0, -1}, none, api.Spec{-1}), inputs(), api.ErrRange},
	} {
		p := parse(t, head+x.s)
		got, many, err := spmd.Run(x.m, p, bind(x.n), x.ins, x.inputs)
		if err != x.err || many != 0 || len(got) != 0 {
			t.Errorf("Run(%q) = %v, %v; want %v", x.s, got, err, x.err)
		}
		specs, plan, err := spmd.Infer(x.m, p, bind(x.n), x.ins)
		if len(specs)+len(plan) > 0 && err != api.OK || err != api.OK && err != x.err {
			t.Errorf("Infer(%q) = %v, %v, %v", x.s, specs, plan, err)
		}
	}
}
