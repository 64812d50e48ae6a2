package dual_test

import (
	"strings"
	"testing"

	"brocade/api"
	"brocade/dual"
	"brocade/eval"
	"brocade/parser"
	"brocade/tensor"
	"brocade/value"
)

const top = api.MaxNum

var (
	kfrac = api.Type{Kind: api.KFrac}
	kint  = api.Type{Kind: api.KInt}
)

func v(n, d int64) api.Val { return api.Val{N: n, D: d} }

func du(a, b int64) dual.Dual { return dual.Dual{A: v(a, 1), B: v(b, 1)} }

func parse(t *testing.T, s string) api.Prog {
	t.Helper()
	p, at, err := parser.Prog(s)
	if err != api.OK {
		t.Fatalf("%q: %d, %v", s, at, err)
	}
	return p
}

func data(name string, t api.Type, dims []int, vals string) api.Named {
	x := api.Tensor{Type: t, Dims: dims}
	for _, s := range strings.Fields(vals) {
		e, err := value.Parse(t, s)
		if err != api.OK {
			panic(s)
		}
		x.Vals = append(x.Vals, e)
	}
	return api.Named{Name: name, Tensor: x}
}

func show(l []api.Named) string {
	var b strings.Builder
	for _, x := range l {
		b.WriteString(x.Name + "=" + tensor.Format(x.Tensor) + ";")
	}
	return b.String()
}

func TestApply(t *testing.T) {
	half := dual.Dual{A: v(1, 2), B: v(-1, 4)}
	bad := dual.Dual{A: v(1, 1), B: v(2, 4)}
	for _, x := range []struct {
		op         int
		a, b, want dual.Dual
		err        api.Errno
	}{
		{api.EMul, du(2, 1), du(3, 0), du(6, 3), 0}, {api.EDiv, du(1, 0), du(2, 1), half, 0}, {api.EMax, du(1, 5), du(1, 7), du(1, 5), 0}, {api.EMin, du(1, 5), du(1, 7), du(1, 5), 0}, {api.EMax, du(1, 5), du(2, 7), du(2, 7), 0}, {api.EMin, du(1, 5), du(2, 7), du(1, 5), 0}, {api.EMin, du(3, 5), du(2, 7), du(2, 7), 0}, {api.EAdd, du(1, 5), du(2, 7), du(3, 12), 0}, {api.ESub, du(1, 5), du(2, 7), du(-1, -2), 0}, {api.ENeg, du(1, 5), bad, du(-1, -5), 0}, {api.EMul, du(2, 5), du(3, 7), du(6, 29), 0},
		{api.EIf, du(1, 1), du(1, 1), dual.Dual{}, api.ErrArg}, {api.ECast, du(1, 1), du(1, 1), dual.Dual{}, api.ErrArg}, {0, du(1, 1), du(1, 1), dual.Dual{}, api.ErrArg}, {api.EDiv, bad, du(0, 0), dual.Dual{}, api.ErrArg}, {api.EDiv, du(1, 1), dual.Dual{A: v(0, 1)}, dual.Dual{}, api.ErrArg}, {api.ENeg, bad, du(1, 1), dual.Dual{}, api.ErrArg}, {api.EMax, du(1, 1), bad, dual.Dual{}, api.ErrArg},
		{api.EDiv, du(1, 1), du(0, 1), dual.Dual{}, api.ErrDivide}, {api.EAdd, du(top, 0), du(1, 0), dual.Dual{}, api.ErrRange}, {api.EAdd, du(0, top), du(0, 1), dual.Dual{}, api.ErrRange}, {api.ESub, du(0, top), du(0, -1), dual.Dual{}, api.ErrRange}, {api.EMul, du(0, top), du(2, 0), dual.Dual{}, api.ErrRange}, {api.EMul, du(2, 0), du(0, top), dual.Dual{}, api.ErrRange}, {api.EMul, du(1, top), du(1, 1), dual.Dual{}, api.ErrRange}, {api.EDiv, du(4, 0), du(2, top), dual.Dual{}, api.ErrRange}, {api.EDiv, du(1, top), du(1, -1), dual.Dual{}, api.ErrRange}, {api.EDiv, du(0, top), dual.Dual{A: v(1, 2), B: v(0, 1)}, dual.Dual{}, api.ErrRange},
	} {
		if got, err := dual.Apply(x.op, x.a, x.b); got != x.want || err != x.err {
			t.Errorf("Apply(%d, %v, %v) = %v, %v", x.op, x.a, x.b, got, err)
		}
	}
	// P25.6: division and multiplication undo each other.
	for a := int64(-3); a <= 3; a++ {
		for b := int64(-3); b <= 3; b++ {
			if b == 0 {
				continue
			}
			x, y := du(a, b+1), du(b, a-2)
			q, e1 := dual.Apply(api.EDiv, x, y)
			back, e2 := dual.Apply(api.EMul, q, y)
			if back != x || e1 != api.OK || e2 != api.OK {
				t.Errorf("%v / %v * the same = %v", x, y, back)
			}
		}
	}
}

func TestReduce(t *testing.T) {
	bad := dual.Dual{A: v(1, 1)}
	for _, x := range []struct {
		fold int
		l    []dual.Dual
		want dual.Dual
		err  api.Errno
	}{
		{api.FSum, nil, du(0, 0), 0}, {api.FProd, nil, du(1, 0), 0}, {api.FMin, nil, dual.Dual{}, api.ErrArg}, {api.FMax, nil, dual.Dual{}, api.ErrArg}, {api.FScan, nil, dual.Dual{}, api.ErrArg}, {api.FNone, []dual.Dual{du(1, 1)}, dual.Dual{}, api.ErrArg}, {9, nil, dual.Dual{}, api.ErrArg}, {api.FSum, []dual.Dual{bad}, dual.Dual{}, api.ErrArg}, {api.FSum, []dual.Dual{du(1, 1), bad}, dual.Dual{}, api.ErrArg}, {api.FSum, []dual.Dual{du(top, 1), du(1, 1), bad}, dual.Dual{}, api.ErrRange},
		{api.FMin, []dual.Dual{du(4, 2)}, du(4, 2), 0}, {api.FSum, []dual.Dual{du(1, 2), du(3, 4), du(5, 6)}, du(9, 12), 0}, {api.FProd, []dual.Dual{du(2, 1), du(3, 0), du(5, 1)}, du(30, 21), 0}, {api.FMin, []dual.Dual{du(4, 2), du(3, 1), du(3, 9)}, du(3, 1), 0}, {api.FMax, []dual.Dual{du(4, 2), du(5, 1), du(5, 9)}, du(5, 1), 0},
	} {
		if got, err := dual.Reduce(x.fold, x.l...); got != x.want || err != x.err {
			t.Errorf("Reduce(%d, %v) = %v, %v", x.fold, x.l, got, err)
		}
	}
}

func TestRun(t *testing.T) {
	a, b := data("a", kfrac, []int{2}, "1 2"), data("b", kfrac, []int{2}, "3 1/2")
	n := data("t", kint, []int{2}, "1 0")
	for _, x := range []struct {
		s     string
		along []api.Named
		want  string
	}{
		{"def s: frac[] = sum i < n: a[i] * a[i]; out s;", []api.Named{data("a", kfrac, []int{2}, "1 0")}, "s=5;s=2;"}, {"def s: frac[] = sum i < n: a[i] * a[i]; out s;", nil, "s=5;s=0;"}, {"def q: int[] = int(7) / int(2) + t[0] / int(2) - int(-7) / int(2); def f: fix(4, 0, floor, sat)[] = sum i < n: fix(4, 0, floor, sat)(7) * fix(4, 0, floor, sat)(1); def g: fix(4, 0, floor, sat)[] = sum i < n: fix(4, 0, floor, sat)(5); def h: fix(4, 0, floor, sat)[i < n] = scan: fix(4, 0, floor, sat)(5); out q, f, g, h;", nil, "q=7;f=7;g=7;h=[5, 7];"}, {"def s: frac[i < n] = scan: a[i] * b[i]; out a, s;", []api.Named{data("a", kfrac, []int{2}, "1 3")}, "a=[1, 2];s=[3, 4];a=[1, 3];s=[3, 9/2];"}, {"def s: frac[] = prod i < n: a[i] + b[i]; out s;", []api.Named{data("b", kfrac, []int{2}, "1 2"), data("b", kfrac, []int{2}, "7 7")}, "s=10;s=21/2;"},
		{"def s: frac[] = max i < n: a[i]; def u: frac[] = min i < n: b[i]; out u, s;", []api.Named{data("b", kfrac, []int{2}, "5 6"), data("a", kfrac, []int{2}, "8 9")}, "u=1/2;s=2;u=6;s=9;"}, {"def s: frac[i < n] = if(a[i] < b[i], a[t[i]] / b[i], -b[i] - frac(1)); out s, t;", []api.Named{data("a", kfrac, []int{2}, "1 1"), data("b", kfrac, []int{2}, "0 1")}, "s=[2/3, -3/2];t=[1, 0];s=[1/3, -1];"}, {"def c: int[] = sum i < n: if(a[i] < b[i], t[i], int(4)); def s: frac[] = cast(frac, c[]) * cast(frac, a[1]) + cast(frac, [n]); out s, c;", []api.Named{data("a", kfrac, []int{2}, "1 2"), data("t", kint, []int{1}, "4")}, "s=12;c=5;s=10;"},
		{"def p: frac[] = if(a[0] < a[1], frac(1), frac(2)); def f: fix(8, 4, even, sat)[] = cast(fix(8, 4, even, sat), p[]); out f, p;", []api.Named{data("a", kfrac, []int{2}, "1 2")}, "f=1;p=1;p=0;"}, {"def s: frac[] = if(a[0] < a[1] & b[0] < b[1], a[0], b[0]) * if(a[0] < a[1] & b[1] < b[0], a[0], b[0]) * if(a[1] < a[0] & b[1] < b[0], a[0], b[0]); def u: frac[] = if(a[0] < a[1] | b[0] < b[1], a[0], b[0]) * if(a[1] < a[0] | b[1] < b[0], a[1], b[0]) * if(a[1] < a[0] | b[0] < b[1], a[0], b[0]); def w: frac[] = if(!a[0] < a[1], a[0], b[0]) - if(!a[1] < a[0], a[0], b[0]); out s, u, w;", []api.Named{data("a", kfrac, []int{2}, "1 1"), data("b", kfrac, []int{2}, "2 3")}, "s=9;u=6;w=2;s=21;u=13;w=1;"}, {"def s: frac[] = max(a[0], frac(1)) * min(b[0], frac(3)); out s;", []api.Named{data("a", kfrac, []int{2}, "1 2"), data("b", kfrac, []int{2}, "5 2")}, "s=3;s=8;"},
	} {
		p := parse(t, "size n; in a: frac[n]; in b: frac[n]; in t: int[n]; "+x.s)
		outs, tangents, err := dual.Run(p, []api.Binding{{Name: "n", Val: 2}}, []api.Named{a, b, n}, x.along)
		if got := show(outs) + show(tangents); got != x.want || err != api.OK {
			t.Errorf("%q: %s, %v", x.s, got, err)
		}
		plain, err := eval.Run(p, []api.Binding{{Name: "n", Val: 2}}, []api.Named{a, b, n})
		if show(plain) != show(outs) || err != api.OK {
			t.Errorf("%q: %s, but %s", x.s, show(plain), show(outs))
		}
		_, zero, err := dual.Run(p, []api.Binding{{Name: "n", Val: 2}}, []api.Named{a, b, n}, nil)
		for _, z := range zero {
			for _, e := range z.Tensor.Vals {
				if e != v(0, 1) || err != api.OK {
					t.Errorf("%q: %s", x.s, show(zero))
				}
			}
		}
	}
}

func TestRunErrors(t *testing.T) {
	a := data("a", kfrac, []int{2}, "1 2")
	for _, x := range []struct {
		s          string
		n          int64
		ins, along []api.Named
		err        api.Errno
	}{
		{"out q;", 2, nil, nil, api.ErrNotFound}, {"def s: int[] = cast(int, a[0]);", 0, nil, nil, api.ErrGradient}, {"", 0, nil, nil, api.ErrSize}, {"", 2, nil, nil, api.ErrNotFound}, {"", 2, []api.Named{{Name: "a"}, a}, nil, api.ErrArg}, {"", 2, []api.Named{data("a", kint, []int{2}, "1 2")}, nil, api.ErrType}, {"", 3, []api.Named{a}, nil, api.ErrSize}, {"in b: frac[n - 2];", 2, []api.Named{a}, []api.Named{{Name: "a"}}, api.ErrSize},
		{"in b: frac[];", 2, []api.Named{a}, []api.Named{{Name: "a"}}, api.ErrNotFound}, {"", 2, []api.Named{a}, []api.Named{{Name: "a"}, a}, api.ErrArg}, {"", 2, []api.Named{a}, []api.Named{data("a", kint, []int{2}, "1 2")}, api.ErrType}, {"", 2, []api.Named{a}, []api.Named{data("a", kfrac, []int{1}, "1")}, api.ErrSize}, {"", 2, []api.Named{a}, []api.Named{{Name: "q"}}, 0}, {"def s: frac[] = frac(1) / frac(0);", 2, []api.Named{a}, []api.Named{{Name: "a"}}, api.ErrArg},
		{"def s: frac[i < n] = a[i + 1];", 2, []api.Named{a}, nil, api.ErrBounds}, {"def s: frac[] = frac(1) / (a[0] - frac(1));", 2, []api.Named{a}, nil, api.ErrDivide}, {"def s: frac[] = if(frac(1) / (a[0] - frac(1)) < a[1], a[0], a[1]);", 2, []api.Named{a}, nil, api.ErrDivide}, {"def s: frac[] = if(a[1] < frac(1) / (a[0] - frac(1)), a[0], a[1]);", 2, []api.Named{a}, nil, api.ErrDivide}, {"def s: frac[] = if(!frac(1) / (a[0] - frac(1)) < a[1], a[0], a[1]);", 2, []api.Named{a}, nil, api.ErrDivide}, {"def s: frac[] = if(a[0] < a[1] & frac(1) / (a[0] - frac(1)) < a[1], a[0], a[1]);", 2, []api.Named{a}, nil, api.ErrDivide}, {"def s: frac[] = if(a[0] < a[1] | a[1] == frac(1) / (a[0] - frac(1)), a[0], a[1]);", 2, []api.Named{a}, nil, api.ErrDivide}, {"def s: frac[] = -(frac(1) / (a[0] - frac(1)));", 2, []api.Named{a}, nil, api.ErrDivide}, {"def s: frac[] = a[1] * (frac(1) / (a[0] - frac(1)));", 2, []api.Named{a}, nil, api.ErrDivide}, {"def s: frac[] = if(a[0] < a[1], frac(1) / (a[0] - frac(1)), a[1]);", 2, []api.Named{a}, nil, api.ErrDivide}, {"def s: frac[] = cast(frac, cast(frac, frac(1) / (a[0] - frac(1))));", 2, []api.Named{a}, nil, api.ErrDivide}, {"def s: frac[] = a[0] * frac(2);", 2, []api.Named{a}, []api.Named{data("a", kfrac, []int{2}, "2147483647 0")}, api.ErrRange}, {"def s: frac[] = sum i < n: a[i];", 2, []api.Named{a}, []api.Named{data("a", kfrac, []int{2}, "2147483647 1")}, api.ErrRange}, {"def s: frac[] = sum i < n - 2: a[i];", 2, []api.Named{a}, nil, api.ErrSize}, {"def s: int[] = [n] / int(0);", 2, []api.Named{a}, nil, api.ErrDivide},
	} {
		outs, tangents, err := dual.Run(parse(t, "size n; in a: frac[n]; "+x.s), []api.Binding{{Name: "n", Val: x.n}}, x.ins, x.along)
		if err != x.err || len(outs)+len(tangents) != 0 {
			t.Errorf("%q: %s, %s, %v; want %v", x.s, show(outs), show(tangents), err, x.err)
		}
	}
}

func TestDifferentiable(t *testing.T) {
	for _, x := range []struct {
		s   string
		at  int
		err api.Errno
	}{
		{"def s: frac[] = a[0] * a[1];", 0, 0}, {"def s: int[] = cast(int, a[0]);", 0, api.ErrGradient}, {"def s: int[] = cast(int, frac(1)); def u: frac[] = a[0]; def v: frac[] = cast(frac, cast(int, u[] + frac(1)));", 2, api.ErrGradient}, {"def s: int[] = if(cast(int, a[0]) < int(1), int(1), int(2));", 0, 0}, {"def s: frac[] = if(a[0] < a[1], frac(1), frac(2)); def u: int[] = cast(int, s[]);", 0, 0}, {"def s: frac[] = if(a[0] < a[1], a[0], frac(2)); def u: int[] = cast(int, s[]);", 1, api.ErrGradient}, {"def u: int[] = cast(int, if(a[0] < a[1], frac(1), frac(2)));", 0, 0}, {"def u: fix(8, 4, even, sat)[] = if([n] < [2], cast(fix(8, 4, even, sat), -a[0]), fix(8, 4, even, sat)(1));", 0, api.ErrGradient},
		{"in t: int[n]; def u: fix(8, 4, even, sat)[] = cast(fix(8, 4, even, sat), t[0]); def w: frac[] = cast(frac, u[]); def x: int[] = cast(int, w[]);", 0, 0}, {"def s: frac[] = cast(frac, a[0]); def u: frac[] = if(cast(int, s[]) == int(1), s[], a[0]);", 0, 0}, {"def s: frac[] = b[];", 3, api.ErrNotFound}, {"out q;", 3, api.ErrNotFound},
	} {
		if at, err := dual.Differentiable(parse(t, "size n; in a: frac[n]; "+x.s)); at != x.at || err != x.err {
			t.Errorf("%q: %d, %v", x.s, at, err)
		}
	}
}
