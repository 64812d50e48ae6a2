package eval_test

import (
	"slices"
	"strings"
	"testing"

	"brocade/api"
	"brocade/eval"
	"brocade/expr"
	"brocade/parser"
	"brocade/program"
	"brocade/tensor"
	"brocade/value"
)

var (
	kfrac = api.Type{Kind: api.KFrac}
	kint  = api.Type{Kind: api.KInt}
	kfix  = api.Type{Kind: api.KFix, Bits: 8, Frac: 4, Round: api.RFloor, Over: api.OSat}
)

func parse(t *testing.T, s string) api.Prog {
	t.Helper()
	p, at, err := parser.Prog(s)
	if err != api.OK {
		t.Fatalf("%q: %d, %v", s, at, err)
	}
	return p
}

func parseExpr(t *testing.T, s string) api.Expr {
	t.Helper()
	e, at, err := parser.Expr(s)
	if err != api.OK {
		t.Fatalf("%q: %d, %v", s, at, err)
	}
	return e
}

// data builds a named tensor from the texts of its elements.
func data(name string, t api.Type, dims []int, vals string) api.Named {
	x := api.Tensor{Type: t, Dims: dims}
	for _, s := range strings.Fields(vals) {
		v, err := value.Parse(t, s)
		if err != api.OK {
			panic(s)
		}
		x.Vals = append(x.Vals, v)
	}
	return api.Named{Name: name, Tensor: x}
}

func bind(l ...any) []api.Binding {
	var r []api.Binding
	for i := 0; i < len(l); i += 2 {
		r = append(r, api.Binding{Name: l[i].(string), Val: int64(l[i+1].(int))})
	}
	return r
}

func show(l []api.Named) string {
	var b strings.Builder
	for _, x := range l {
		b.WriteString(x.Name + "=" + tensor.Format(x.Tensor) + ";")
	}
	return b.String()
}

func memory() []api.Named {
	return []api.Named{
		data("a", kfrac, []int{3}, "1/2 1/3 1/6"), data("b", kint, []int{2, 2}, "7 -3 1 2"), data("f", kfix, nil, "3/2"), data("a", kint, []int{1}, "9"),
		{Name: "bad", Tensor: api.Tensor{Type: kint, Dims: []int{2}}}, {Name: "badt"}, data("one", kint, nil, "1"),
	}
}

func TestExpr(t *testing.T) {
	env := bind("i", 1, "j", -1, "big", 1<<40, "i", 5)
	for _, x := range []struct {
		s    string
		want string
		typ  api.Type
		err  api.Errno
	}{
		{"frac(-1/2)", "-1/2", kfrac, 0}, {"[2*i + 3]", "5", kint, 0}, {"a[i] + a[0]", "5/6", kfrac, 0}, {"f[] * f[]", "9/4", kfix, 0}, {"-a[2]", "-1/6", kfrac, 0}, {"min(a[0], a[1]) - max(a[1], a[2])", "0", kfrac, 0}, {"a[0] / a[1]", "3/2", kfrac, 0}, {"b[0, 0] / [2]", "3", kint, 0}, {"cast(int, a[0] * frac(-3))", "-2", kint, 0}, {"cast(frac, f[])", "3/2", kfrac, 0},
		{"a[b[0, 0]]", "1/6", kfrac, 0}, {"a[b[0, i]]", "1/2", kfrac, 0}, {"a[b[i, 0]]", "1/3", kfrac, 0}, {"b[one[], b[1, 1]]", "2", kint, 0}, {"a[i + j]", "1/2", kfrac, 0},
		{"if(a[0] < a[1], frac(1) / frac(0), a[2])", "1/6", kfrac, 0}, {"if(a[1] < a[0], int(4), a[9])", "4", kint, 0}, {"if([i] == [1] & !([i] < [i]), int(1), int(2))", "1", kint, 0}, {"if([i] <= [0] | [i] <= [1], int(1), int(2))", "1", kint, 0}, {"if([i] < [1] | [i] < [0], int(1), int(2))", "2", kint, 0}, {"if([1] < [i] & [i] <= [1], int(1), int(2))", "2", kint, 0},
		{"a[0] < a[1]", "", kint, api.ErrType}, {"[q]", "", kint, api.ErrNotFound}, {"[big]", "", kint, api.ErrRange}, {"[9000000*big]", "", kint, api.ErrRange}, {"[-2147483648]", "", kint, api.ErrRange}, {"[-2147483647]", "-2147483647", kint, 0},
		{"q[i]", "", kint, api.ErrNotFound}, {"bad[0, 0, 0]", "", kint, api.ErrArg}, {"badt[]", "", kint, api.ErrArg}, {"a[]", "", kint, api.ErrRank}, {"a[0, q]", "", kint, api.ErrRank}, {"a[q]", "", kint, api.ErrNotFound}, {"a[3]", "", kint, api.ErrBounds}, {"a[j]", "", kint, api.ErrBounds}, {"b[5, q]", "", kint, api.ErrBounds}, {"b[q, 5]", "", kint, api.ErrNotFound}, {"a[9000000*big]", "", kint, api.ErrRange}, {"a[big]", "", kint, api.ErrBounds},
		{"a[q[i]]", "", kint, api.ErrNotFound}, {"a[bad[i]]", "", kint, api.ErrArg}, {"a[a[q, q]]", "", kint, api.ErrType}, {"a[b[q]]", "", kint, api.ErrRank}, {"a[b[q, 5]]", "", kint, api.ErrNotFound}, {"a[b[5, q]]", "", kint, api.ErrBounds}, {"a[b[0, 2]]", "", kint, api.ErrBounds}, {"b[0, b[0, -1]]", "", kint, api.ErrBounds},
		{"a[0] + [i]", "", kint, api.ErrType}, {"a[0] * q[] + a[9]", "", kint, api.ErrNotFound}, {"(a[0] + [i]) * q[]", "", kint, api.ErrType}, {"a[9] * (a[0] + [i])", "", kint, api.ErrBounds}, {"a[0] / frac(0)", "", kint, api.ErrDivide}, {"int(2147483647) + int(1)", "", kint, api.ErrRange}, {"frac(1/2147483647) * a[0]", "", kint, api.ErrRange}, {"-q[]", "", kint, api.ErrNotFound}, {"cast(int, q[])", "", kint, api.ErrNotFound}, {"min(a[0], [i])", "", kint, api.ErrType},
		{"if(a[0] < [i], int(1), int(2))", "", kint, api.ErrType}, {"if(a[0] < q[], int(1), int(2))", "", kint, api.ErrNotFound}, {"if([i] == [1] | q[] < q[], int(1), int(2))", "", kint, api.ErrNotFound}, {"if([i] == [2] & q[] < q[], int(1), int(2))", "", kint, api.ErrNotFound}, {"if(!(q[] < q[]), int(1), int(2))", "", kint, api.ErrNotFound}, {"if(q[] < a[9], int(1), int(2))", "", kint, api.ErrNotFound}, {"if([i] == [1], int(1), a[0])", "1", kint, 0},
	} {
		v, typ, err := eval.Expr(memory(), env, parseExpr(t, x.s))
		if err != x.err || err == api.OK && (value.Format(typ, v) != x.want || typ != x.typ) || err != api.OK && (v != api.Val{} || typ != api.Type{}) {
			t.Errorf("Expr(%q) = %v, %v, %v", x.s, v, typ, err)
		}
	}
	if _, _, err := eval.Expr(nil, nil, api.Expr{Op: api.CLt}); err != api.ErrRank {
		t.Error("expr.Validate comes first", err)
	}
}

func TestCondition(t *testing.T) {
	for _, x := range []struct {
		s    string
		want bool
		err  api.Errno
	}{{"a[0] < a[1]", false, 0}, {"a[1] < a[0]", true, 0}, {"a[1] <= a[1]", true, 0}, {"a[1] == a[1]", true, 0}, {"a[0] == a[1]", false, 0}, {"!(a[0] == a[1]) & [0] <= [1]", true, 0}, {"int(1)", false, api.ErrType}, {"a[0] < q[]", false, api.ErrNotFound}, {"!(a[0] < q[])", false, api.ErrNotFound}} {
		if got, err := eval.Condition(memory(), nil, parseExpr(t, x.s)); got != x.want || err != x.err {
			t.Errorf("Condition(%q) = %v, %v", x.s, got, err)
		}
	}
	if _, err := eval.Condition(nil, nil, api.Expr{Op: api.EAdd}); err != api.ErrRank {
		t.Error("expr.Validate comes first", err)
	}
}

func TestSizes(t *testing.T) {
	text := "size n, m; where 0 <= m - n; where 0 == 2*m - 3*n; in a: frac[n, 2*m + 1]; def b: int[i < n - 2, j < 6] = int(1); def c: frac[i < 65*n, j < 65] = a[0, 0]; def d: int[i < 9223372036854775807*m] = int(1);"
	for _, x := range []struct {
		sizes []api.Binding
		err   api.Errno
	}{{bind("n", 4, "m", 6), 0}, {bind("m", 6, "n", 4), 0}, {nil, api.ErrSize}, {bind("n", 4), api.ErrSize}, {bind("n", 4, "q", 6), api.ErrSize}, {bind("n", 4, "n", 6), api.ErrSize}, {bind("n", 0, "m", 0), api.ErrSize}, {bind("n", 4096, "m", 6144), api.ErrSize}, {bind("n", 6, "m", 4), api.ErrConstraint}, {bind("n", 4, "m", 5), api.ErrConstraint}, {bind("n", 4, "m", 6, "k", 1), api.ErrSize}} {
		if err := eval.CheckSizes(parse(t, text), x.sizes); err != x.err {
			t.Errorf("CheckSizes(%v) = %v", x.sizes, err)
		}
	}
	if err := eval.CheckSizes(parse(t, "size n; where 0 <= 9223372036854775807*n;"), bind("n", 2)); err != api.ErrRange {
		t.Error(err)
	}
	for _, x := range []struct {
		name string
		n, m int
		want []int
		err  api.Errno
	}{{"a", 4, 6, []int{4, 13}, 0}, {"b", 4, 6, []int{2, 6}, 0}, {"b", 2, 3, nil, api.ErrSize}, {"c", 4, 6, nil, api.ErrSize}, {"d", 4, 6, nil, api.ErrRange}, {"q", 4, 6, nil, api.ErrNotFound}, {"q", 4, 5, nil, api.ErrConstraint}, {"n", 4, 6, nil, api.ErrNotFound}} {
		if got, err := eval.Dims(parse(t, text), bind("n", x.n, "m", x.m), x.name); !slices.Equal(got, x.want) || err != x.err {
			t.Errorf("Dims(%s, %d, %d) = %v, %v", x.name, x.n, x.m, got, err)
		}
	}
	if _, err := eval.Dims(api.Prog{Outs: []string{"q"}}, bind("n", 1), "q"); err != api.ErrNotFound {
		t.Error(err)
	}
}

const sums = "size n, m; in a: frac[n, m]; in f: fix(8, 4, floor, sat)[m]; def s: frac[] = sum i < n, j < m: a[i, j]; def r: frac[i < n] = prod j < m: a[i, j] + frac(1); def lo: frac[j < m] = min i < n: a[i, j]; def hi: frac[] = max i < n, j < m: a[i, j]; def p: frac[i < n, j < m] = scan: a[i, j]; def g: fix(8, 4, floor, sat)[] = sum j < m: f[j]; def q: fix(8, 4, floor, sat)[j < m] = scan: f[j]; def e: int[i < n, j < m] = [10*i + j]; out s, r, lo, hi, p, g, q, e, a;"

func TestRun(t *testing.T) {
	ins := []api.Named{data("f", kfix, []int{3}, "7 2 -3"), data("x", kint, nil, "1"), data("a", kfrac, []int{2, 3}, "1 1/2 -1 2 0 3"), data("a", kint, nil, "1")}
	want := "s=11/2;r=[0, 12];lo=[1, 0, -1];hi=3;p=[[1, 3/2, 1/2], [2, 2, 5]];g=79/16;q=[7, 127/16, 79/16];e=[[0, 1, 2], [10, 11, 12]];a=[[1, 1/2, -1], [2, 0, 3]];"
	p := parse(t, sums)
	got, err := eval.Run(p, bind("n", 2, "m", 3), ins)
	if show(got) != want || err != api.OK {
		t.Errorf("Run = %s, %v", show(got), err)
	}
	all, err := eval.All(p, bind("m", 3, "n", 2), ins)
	if show(all)+show(ins[2:3]) != want || err != api.OK {
		t.Errorf("All = %s, %v", show(all), err)
	}
	for i, d := range p.Defs {
		x, err := eval.Def(p, bind("n", 2, "m", 3), append(all[:i:i], ins...), i)
		if err != api.OK || !tensor.Same(x, all[i].Tensor) || tensor.Validate(x) != api.OK || x.Type != d.Type {
			t.Errorf("Def(%s) = %v, %v", d.Name, x, err)
		}
		dims, err := eval.Dims(p, bind("n", 2, "m", 3), d.Name)
		if err != api.OK || !slices.Equal(dims, x.Dims) {
			t.Errorf("%s: %v, %v", d.Name, dims, err)
		}
	}
	got[8].Tensor.Vals[0].N = 77
	if ins[2].Tensor.Vals[0].N != 1 {
		t.Error("the result shares memory with the argument")
	}
}

func TestExamples(t *testing.T) {
	for _, x := range []struct {
		s    string
		ins  []api.Named
		want string
	}{
		{"size n; in a: frac[n]; def s: frac[] = sum i < n: a[i]; out s;", []api.Named{data("a", kfrac, []int{3}, "1/2 1/3 1/6")}, "s=1;"},
		{"size n; in a: int[n]; def s: int[i < n] = scan: a[i]; out s;", []api.Named{data("a", kint, []int{3}, "1 2 3")}, "s=[1, 3, 6];"},
		{"size n; in a: int[n]; in b: int[1]; def s: int[] = a[b[0]]; out s;", []api.Named{data("a", kint, []int{3}, "1 2 3"), data("b", kint, []int{1}, "7")}, "s=3;"},
		{"size n; def s: int[i < n] = if([i] < int(1), int(1), int(1) / [i - 1]); out s;", nil, ""},
		{"size n; def s: int[i < n] = if([i] < int(2), int(1), int(1) / [i - 1]); out s;", nil, "s=[1, 1, 1];"},
		{"size n; in a: int[n]; def s: int[] = a[n - 1]; out a, s; def u: int[] = s[]; out u;", []api.Named{data("a", kint, []int{3}, "1 2 3")}, "a=[1, 2, 3];s=3;u=3;"},
	} {
		got, err := eval.Run(parse(t, x.s), bind("n", 3), x.ins)
		if show(got) != x.want || err == api.OK && x.want == "" {
			t.Errorf("%q: %s, %v", x.s, show(got), err)
		}
	}
}

func TestRunErrors(t *testing.T) {
	a3 := data("a", kfrac, []int{3}, "1 2 3")
	for _, x := range []struct {
		s     string
		sizes []api.Binding
		ins   []api.Named
		err   api.Errno
	}{
		{"out q;", bind("n", 1), nil, api.ErrNotFound}, {"size n; in a: frac[n];", nil, nil, api.ErrSize}, {"size n; in a: frac[n - 3];", bind("n", 3), nil, api.ErrSize}, {"size n; in a: frac[n];", bind("n", 3), nil, api.ErrNotFound}, {"size n; in a: frac[n];", bind("n", 3), []api.Named{{Name: "a"}, a3}, api.ErrArg}, {"size n; in a: int[n + 1];", bind("n", 3), []api.Named{a3}, api.ErrType}, {"size n; in a: frac[n + 1];", bind("n", 3), []api.Named{a3}, api.ErrSize}, {"size n; in a: frac[n]; in b: int[0];", bind("n", 3), []api.Named{a3}, api.ErrSize}, {"size n; in a: frac[n]; in b: int[];", bind("n", 3), []api.Named{a3}, api.ErrNotFound},
		{"size n; in a: frac[n]; def b: frac[i < n] = a[i + 1]; def c: frac[] = frac(1) / frac(0);", bind("n", 3), []api.Named{a3}, api.ErrBounds}, {"def c: frac[] = frac(1) / frac(0); def b: int[i < 0] = int(1);", nil, nil, api.ErrDivide}, {"def b: int[i < 0] = int(1); def c: frac[] = frac(1) / frac(0);", nil, nil, api.ErrSize}, {"size n; def c: int[] = sum i < n - 3: [i];", bind("n", 3), nil, api.ErrSize}, {"def c: int[i < 16] = sum j < 4096, k < 4096: [i];", nil, nil, api.ErrLimit}, {"def c: int[i < 17] = sum j < 4096: [i];", nil, nil, api.ErrLimit}, {"def c: int[i < 16] = sum j < 4096: int(1);", nil, nil, 0}, {"def c: int[] = sum j < 4097: int(1);", nil, nil, api.ErrSize}, {"size n; def c: int[] = sum j < 9223372036854775807*n: int(1);", bind("n", 3), nil, api.ErrRange},
		{"def c: int[] = sum j < 3: [2147483646 + j];", nil, nil, api.ErrRange}, {"def c: int[] = sum j < 3: [1073741823 + j];", nil, nil, api.ErrRange}, {"def c: frac[j < 3] = scan: frac(1073741823);", nil, nil, api.ErrRange}, {"def c: int[j < 3] = int(6) / [j - 2];", nil, nil, api.ErrDivide}, {"def c: frac[] = min j < 3: frac(1) / cast(frac, [j - 1]);", nil, nil, api.ErrDivide},
	} {
		p := parse(t, x.s)
		for k := range 2 {
			l, err := []func(api.Prog, []api.Binding, []api.Named) ([]api.Named, api.Errno){eval.Run, eval.All}[k](p, x.sizes, x.ins)
			if err != x.err || err != api.OK && len(l) != 0 {
				t.Errorf("%q: %s, %v; want %v", x.s, show(l), err, x.err)
			}
		}
	}
}

func TestDefErrors(t *testing.T) {
	text := "size n; in a: frac[n]; in b: int[n]; in w: int[n - 3]; def s: frac[] = a[b[0]]; def u: frac[i < n - 1] = sum j < n: s[]; def v: frac[] = a[w[0]]; def y: int[i < n - 3] = sum q < n - 3: int(1); def z: int[] = sum q < n - 3: w[0];"
	a, b, s := data("a", kfrac, []int{3}, "1 2 3"), data("b", kint, []int{3}, "1 2 3"), data("s", kfrac, nil, "5")
	for _, x := range []struct {
		n, def int
		mem    []api.Named
		err    api.Errno
	}{
		{3, 0, []api.Named{a, b}, 0}, {3, 0, []api.Named{b, a}, 0}, {3, 0, []api.Named{a}, api.ErrNotFound}, {3, 0, nil, api.ErrNotFound}, {3, 0, []api.Named{{Name: "a"}, b}, api.ErrArg}, {3, 0, []api.Named{{Name: "b"}}, api.ErrNotFound}, {3, 0, []api.Named{data("a", kint, []int{9}, "1")}, api.ErrArg}, {3, 0, []api.Named{data("a", kint, []int{1}, "1"), b}, api.ErrType}, {4, 0, []api.Named{a, b}, api.ErrSize},
		{3, 1, []api.Named{s}, 0}, {3, 1, []api.Named{a, b}, api.ErrNotFound}, {1, 1, []api.Named{s}, api.ErrSize}, {3, 2, []api.Named{a, b}, api.ErrSize}, {3, 2, []api.Named{b}, api.ErrNotFound}, {3, 3, nil, api.ErrSize}, {3, 4, nil, api.ErrSize}, {3, 5, nil, api.ErrNotFound}, {3, -1, nil, api.ErrNotFound}, {0, 9, nil, api.ErrSize},
	} {
		if got, err := eval.Def(parse(t, text), bind("n", x.n), x.mem, x.def); err != x.err || err != api.OK && !tensor.Same(got, api.Tensor{}) {
			t.Errorf("Def(%d) with n %d and %s = %v, %v; want %v", x.def, x.n, show(x.mem), got, err, x.err)
		}
	}
	if _, err := eval.Def(api.Prog{Sizes: []string{""}}, nil, nil, 0); err != api.ErrName {
		t.Error(err)
	}
}

// TestIndependence holds 19.5.
func TestIndependence(t *testing.T) {
	p := parse(t, "size n; in a: frac[n]; in b: int[n]; def dead: frac[] = a[0] / a[1]; def s: frac[i < n] = a[b[i]]; out s;")
	a, b := data("a", kfrac, []int{3}, "1 2 3"), data("b", kint, []int{3}, "1 2 -3")
	one, _ := eval.Run(p, bind("n", 3), []api.Named{a, b})
	two, err := eval.Run(p, bind("n", 3), []api.Named{data("s", kint, nil, "1"), data("dead", kint, nil, "1"), b, {Name: "z"}, a})
	if show(one) != "s=[2, 3, 1];" || show(one) != show(two) || err != api.OK {
		t.Error(show(one), show(two), err)
	}
	a.Tensor.Vals[1] = api.Val{N: 0, D: 1}
	if _, err := eval.Run(p, bind("n", 3), []api.Named{a, b}); err != api.ErrDivide {
		t.Error("a dead definition still fails", err)
	}
	for _, d := range p.Defs {
		if typ, err := program.TypeOf(p, expr.IndexNames(d.Body), d.Body); typ != d.Type || err != api.OK {
			t.Error(typ, err)
		}
	}
}
