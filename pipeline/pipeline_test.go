package pipeline_test

import (
	"slices"
	"strings"
	"testing"

	"brocade/api"
	"brocade/arena"
	"brocade/canon"
	"brocade/codegen"
	"brocade/cse"
	"brocade/delta"
	"brocade/depgraph"
	"brocade/eval"
	"brocade/inline"
	"brocade/liveness"
	"brocade/loopnest"
	"brocade/lower"
	"brocade/parser"
	"brocade/peephole"
	"brocade/pipeline"
	"brocade/printer"
	"brocade/program"
	"brocade/schedule"
	"brocade/simplify"
	"brocade/tensor"
)

func parse(t *testing.T, s string) api.Prog {
	t.Helper()
	p, at, err := parser.Prog(s)
	if err != api.OK {
		t.Fatalf("%q: %d, %v", s, at, err)
	}
	return p
}

func steps(t *testing.T, s string) []api.Step {
	t.Helper()
	l, at, err := schedule.Parse(s)
	if err != api.OK {
		t.Fatalf("%q: %d, %v", s, at, err)
	}
	return l
}

func bind(n int64) []api.Binding { return []api.Binding{{Name: "n", Val: n}} }

func show(l []api.Named) string {
	var b strings.Builder
	for _, x := range l {
		b.WriteString(x.Name + "=" + tensor.Format(x.Tensor) + ";")
	}
	return b.String()
}

const (
	head  = "size n; in a: frac[n]; in c: frac[n]; "
	whole = head + "def dead: frac[] = a[0]; def u: frac[i < n] = a[i] * frac(1) + c[i]; def v: frac[j < n] = a[j] + c[j]; def w: frac[i < n] = sum k < n: if([k] == [i], u[k] * v[k] * u[k], frac(0)); def x: frac[i < n] = -w[i]; def s: frac[] = sum i < n: x[i] * x[i]; out s, w;"
)

func ins() []api.Named {
	vec := func(name string, l ...int64) api.Named {
		x := api.Tensor{Type: api.Type{Kind: api.KFrac}, Dims: []int{len(l)}}
		for _, n := range l {
			x.Vals = append(x.Vals, api.Val{N: n, D: 1})
		}
		return api.Named{Name: name, Tensor: x}
	}
	return []api.Named{vec("c", 1, 2, -3), vec("a", 0, 4, 1)}
}

func TestOptimize(t *testing.T) {
	for _, s := range []string{whole, head + "def s: frac[] = a[0]; out s;", head + "out a;", "",
		head + "def u: frac[i < n] = a[i] + c[i]; def v: frac[j < n] = a[j] + c[j]; def s: frac[] = u[0] - v[0]; out s;",
		head + "def u: frac[i < n] = a[i] + c[i]; def v: frac[j < n] = a[j] + c[j]; def s: frac[i < n] = if(u[i] < v[i], a[i], c[i]); out s;",
		head + "def u: frac[i < n] = a[i]; def w: frac[i < n] = a[i]; def x: frac[i < n] = u[i] + c[i]; def y: frac[i < n] = w[i] + c[i]; def s: frac[i < n] = x[i] * y[i]; out s;",
		head + "def u: frac[] = a[0] * frac(1); out u;", head + "def u: frac[] = a[0] * frac(1); def dead: frac[] = c[0]; out u;",
		head + "def w: frac[i < n] = sum k < n: if([k] == [i], a[k] * c[k], frac(0)); def v: frac[i < n] = a[i] * c[i]; def s: frac[i < n] = w[i] - v[i]; out s;",
		head + "def w: frac[i < n] = sum k < n: if([k] == [i], a[k] - a[i], frac(0)); def u: frac[] = a[0] * frac(1); out u, w;",
		head + "def w: frac[i < n] = sum k < n: if([k] == [i], a[k] - a[i], frac(0)); def x: frac[i < n] = a[i] + c[0]; def y: frac[j < n] = a[j] + c[0]; def s: frac[i < n] = x[i] * y[0]; out w, s;",
		head + "def w: frac[i < n] = sum k < n: if([k] == [i], a[k] - a[i], frac(0)); def x: frac[i < n] = a[i] + c[0]; def y: frac[j < n] = a[j] + c[0]; def s: frac[i < n] = x[i] * y[0]; def dead: frac[] = c[1]; out w, s;",
		head + "def w: frac[i < n] = sum k < n: if([k] == [i], a[k] - a[i], frac(0)); def dead: frac[] = c[1]; out w;",
	} {
		p := parse(t, s)
		// The definition, step by step.
		want, total := p, 0
		for range 8 {
			r, a := simplify.Prog(want)
			r, b := delta.Prog(r)
			r, c := cse.Merge(r)
			d := len(r.Defs)
			r = depgraph.RemoveDead(r)
			d -= len(r.Defs)
			want = r
			total += a + b + c + d
			if a+b+c+d == 0 {
				break
			}
		}
		r, a := inline.All(want, 2)
		want = depgraph.RemoveDead(r)
		total += a + len(r.Defs) - len(want.Defs)
		got, many, err := pipeline.Optimize(p)
		if !program.Same(got, want) || many != total || err != api.OK {
			t.Errorf("Optimize = %s, %d, %v; want %s, %d", printer.Prog(got), many, err, printer.Prog(want), total)
		}
		if _, err := program.Validate(got); err != api.OK {
			t.Error(err)
		}
	}
	if p, many, err := pipeline.Optimize(parse(t, "out q;")); err != api.ErrNotFound || many != 0 || !program.Same(p, api.Prog{}) {
		t.Error(p, many, err)
	}
	p := parse(t, whole)
	q, _, _ := pipeline.Optimize(p)
	one, e1 := eval.Run(p, bind(3), ins())
	two, e2 := eval.Run(q, bind(3), ins())
	if show(one) != show(two) || e1 != api.OK || e2 != api.OK || len(q.Defs) >= len(p.Defs) {
		t.Error(show(one), show(two), e1, e2)
	}
}

func sameKernel(a, b pipeline.Kernel) bool {
	return program.Same(a.Prog, b.Prog) && slices.Equal(a.Sizes, b.Sizes) && loopnest.Same(a.Nest, b.Nest) && a.Exact == b.Exact && slices.Equal(a.Unit.Code, b.Unit.Code) && slices.Equal(a.Unit.Types, b.Unit.Types) && slices.Equal(a.Unit.Slots, b.Unit.Slots) && a.Unit.Words == b.Unit.Words
}

func TestCompile(t *testing.T) {
	p := parse(t, whole)
	best, _, _ := pipeline.Optimize(p)
	for _, x := range []struct {
		s     string
		exact bool
	}{{"", true}, {"split s_i 2 o k\nannotate o 0\n", true}, {"reverse s_i\n", false}, {"split s_i 2 o k\nreverse k\n", false}} {
		n, err := lower.Prog(best, bind(3))
		if err != api.OK {
			t.Fatal(err)
		}
		n, _, err = schedule.ApplyAll(n, steps(t, x.s))
		u, err2 := codegen.Compile(n)
		u, _ = peephole.Optimize(u)
		want := pipeline.Kernel{Prog: best, Sizes: bind(3), Nest: n, Unit: u, Exact: x.exact}
		got, phase, err3 := pipeline.Compile(p, bind(3), steps(t, x.s))
		if err != api.OK || err2 != api.OK || err3 != api.OK || phase != 0 || !sameKernel(got, want) {
			t.Fatalf("%q: %d, %v, %v, %v", x.s, phase, err, err2, err3)
		}
		outs, many, err := pipeline.Run(got, ins(), 100000)
		plain, _ := eval.Run(p, bind(3), ins())
		if show(outs) != show(plain) || err != api.OK || many == 0 {
			t.Errorf("%q: %s, %v; want %s", x.s, show(outs), err, show(plain))
		}
		lives, _ := liveness.Analyze(got.Nest)
		if at, err := arena.Check(lives, got.Unit.Slots, got.Unit.Words); err != api.OK {
			t.Error(at, err)
		}
	}
	for _, x := range []struct {
		s     string
		n     int64
		l     string
		phase int
		err   api.Errno
	}{
		{"out q;", 0, "fuse q\n", 1, api.ErrNotFound}, {head + "out a;", 0, "fuse q\n", 2, api.ErrSize}, {head + "def s: frac[i < n] = a[i + 1]; out s;", 3, "fuse q\n", 2, api.ErrBounds}, {head + "out a;", 3, "fuse q\n", 3, api.ErrArg}, {head + "def s: frac[] = a[0]; out s;", 3, "fuse q\n", 4, api.ErrLoop}, {head + "def s: frac[i < n] = scan: a[i]; out s;", 3, "reverse s_i\n", 4, api.ErrDependence}, {head + "def s: int[i < n] = [2147483648*i]; out s;", 3, "", 5, api.ErrRange},
	} {
		k, phase, err := pipeline.Compile(parse(t, x.s), bind(x.n), steps(t, x.l))
		if phase != x.phase || err != x.err || !sameKernel(k, pipeline.Kernel{}) {
			t.Errorf("Compile(%q) = %d, %v; want %d, %v", x.s, phase, err, x.phase, x.err)
		}
	}
}

func TestRunErrors(t *testing.T) {
	k, _, _ := pipeline.Compile(parse(t, whole), bind(3), nil)
	other := k
	other.Prog = parse(t, head+"def q: frac[] = a[0]; out q;")
	for i, x := range []struct {
		k    pipeline.Kernel
		ins  []api.Named
		fuel int
		err  api.Errno
	}{{k, nil, 9, api.ErrNotFound}, {k, ins(), 9, api.ErrFuel}, {k, ins(), -1, api.ErrArg}, {other, ins(), 99999, api.ErrNotFound}, {pipeline.Kernel{}, nil, 9, api.ErrCode}} {
		if outs, many, err := pipeline.Run(x.k, x.ins, x.fuel); err != x.err || many != 0 || len(outs) != 0 {
			t.Errorf("case %d: %v, %d, %v; want %v", i, outs, many, err, x.err)
		}
	}
}

func TestCompiler(t *testing.T) {
	c, err := pipeline.New(2)
	if err != api.OK {
		t.Fatal(err)
	}
	p := parse(t, head+"def s: frac[i < n] = a[i] * c[i]; out s;")
	q := parse(t, "size m; in x: frac[m]; in y: frac[m]; def z: frac[k < m] = x[k] * y[k]; out z;")
	l := steps(t, "split d0_i0 2 o k\n")
	normal, _ := canon.Normalize(p)
	want, _, _ := pipeline.Compile(normal, []api.Binding{{Name: "s0", Val: 3}}, l)
	for i, x := range []struct {
		p      api.Prog
		size   string
		n      int64
		l      []api.Step
		cached bool
	}{{p, "n", 3, l, false}, {p, "n", 3, l, true}, {q, "m", 3, l, true}, {p, "n", 4, l, false}, {p, "n", 3, l, true}, {p, "n", 3, nil, false}, {p, "n", 4, l, false}} {
		k, cached, err := c.Get(x.p, []api.Binding{{Name: "zz", Val: 1}, {Name: x.size, Val: x.n}}, x.l)
		if cached != x.cached || err != api.OK {
			t.Errorf("Get %d: %v, %v", i, cached, err)
		}
		if x.n == 3 && x.l != nil && !sameKernel(k, want) {
			t.Errorf("Get %d: another kernel", i)
		}
		// What the caller does with a kernel does not reach the cache.
		k.Unit.Code[0].Op, k.Prog.Outs[0], k.Sizes[0].Val, k.Nest.Body[0].Name = 77, "q", 77, "q"
	}
	if hits, misses := c.Stats(); hits != 3 || misses != 4 {
		t.Error(hits, misses)
	}
	for _, x := range []struct {
		c   *pipeline.Compiler
		p   api.Prog
		b   []api.Binding
		l   []api.Step
		err api.Errno
	}{{nil, p, bind(3), nil, api.ErrArg}, {&pipeline.Compiler{}, p, bind(3), nil, api.ErrArg}, {c, parse(t, "out q;"), nil, []api.Step{{}}, api.ErrNotFound}, {c, p, nil, []api.Step{{}}, api.ErrNotFound}, {c, p, bind(3), []api.Step{l[0], {}}, api.ErrSchedule}, {c, p, bind(0), nil, api.ErrSize}, {c, p, bind(0), nil, api.ErrSize}, {c, p, bind(3), steps(t, "fuse q\n"), api.ErrLoop}, {c, p, bind(3), make([]api.Step, 65), api.ErrSchedule}} {
		if k, cached, err := x.c.Get(x.p, x.b, x.l); err != x.err || cached || !sameKernel(k, pipeline.Kernel{}) {
			t.Errorf("Get: %v, %v; want %v", cached, err, x.err)
		}
	}
	if hits, misses := c.Stats(); hits != 3 || misses != 7 {
		t.Error("errors are not cached", hits, misses)
	}
	var none *pipeline.Compiler
	for _, x := range []*pipeline.Compiler{none, {}} {
		if h, m := x.Stats(); h != 0 || m != 0 {
			t.Error(h, m)
		}
	}
	for _, most := range []int{0, 1025} {
		if c, err := pipeline.New(most); c != nil || err != api.ErrArg {
			t.Error(c, err)
		}
	}
}
