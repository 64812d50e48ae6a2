package forward_test

import (
	"strings"
	"testing"

	"brocade/api"
	"brocade/dual"
	"brocade/eval"
	"brocade/expr"
	"brocade/forward"
	"brocade/parser"
	"brocade/printer"
	"brocade/program"
	"brocade/tensor"
	"brocade/value"
)

func parse(t *testing.T, s string) api.Prog {
	t.Helper()
	p, at, err := parser.Prog(s)
	if err != api.OK {
		t.Fatalf("%q: %d, %v", s, at, err)
	}
	return p
}

func parseExpr(t *testing.T, s string) api.Expr {
	t.Helper()
	e, at, err := parser.Expr(s)
	if err != api.OK {
		t.Fatalf("%q: %d, %v", s, at, err)
	}
	return e
}

const head = "size n; in a: frac[n]; in c: frac[n]; in t: int[n]; "

func TestExpr(t *testing.T) {
	p := parse(t, head)
	for _, x := range []struct{ s, want string }{
		{"a[i] * c[i]", "d_a[i] * c[i]"}, {"a[i] * a[i]", "d_a[i] * a[i] + a[i] * d_a[i]"}, {"c[i] * a[i]", "c[i] * d_a[i]"}, {"c[i] * c[0]", "frac(0)"}, {"a[i] * frac(0)", "d_a[i] * frac(0)"}, {"frac(0) * a[i]", "frac(0) * d_a[i]"}, {"frac(3)", "frac(0)"}, {"a[t[i]]", "d_a[t[i]]"},
		{"a[i] + c[i]", "d_a[i]"}, {"c[i] + a[i]", "d_a[i]"}, {"a[i] + a[0]", "d_a[i] + d_a[0]"}, {"c[i] + c[i]", "frac(0)"}, {"a[i] - c[i]", "d_a[i]"}, {"c[i] - a[i]", "-d_a[i]"}, {"a[i] - a[0]", "d_a[i] - d_a[0]"}, {"c[i] - c[i]", "frac(0)"}, {"-a[i]", "-d_a[i]"}, {"-c[i]", "frac(0)"},
		{"a[i] / c[i]", "d_a[i] / c[i]"}, {"c[i] / a[i]", "-(c[i] / a[i] * d_a[i]) / a[i]"}, {"a[i] / a[0]", "(d_a[i] - a[i] / a[0] * d_a[0]) / a[0]"}, {"c[i] / c[0]", "frac(0)"},
		{"min(a[i], c[i])", "if(a[i] <= c[i], d_a[i], frac(0))"}, {"max(a[i], c[i])", "if(c[i] <= a[i], d_a[i], frac(0))"}, {"max(c[i], c[0])", "frac(0)"}, {"if(a[i] < c[i], c[0], -a[0])", "if(a[i] < c[i], frac(0), -d_a[0])"}, {"if(a[i] < c[i], c[0], c[1])", "frac(0)"}, {"cast(frac, a[i] * c[i])", "d_a[i] * c[i]"}, {"cast(frac, t[i])", "frac(0)"}, {"a[i] * cast(frac, t[i] + t[0])", "d_a[i] * cast(frac, t[i] + t[0])"}, {"cast(frac, if(a[i] < c[i], t[i], -t[0]))", "frac(0)"}, {"a[i] * cast(frac, [i])", "d_a[i] * cast(frac, [i])"}, {"cast(frac, cast(int, c[i]))", "frac(0)"}, {"if(cast(int, a[0]) < int(1), a[i], c[i])", "if(cast(int, a[0]) < int(1), d_a[i], frac(0))"},
	} {
		got, err := forward.Expr(p, parseExpr(t, x.s), []string{"a"})
		if printer.Expr(got) != x.want || err != api.OK {
			t.Errorf("Expr(%q) = %q, %v", x.s, printer.Expr(got), err)
		}
	}
	for _, x := range []struct {
		s   string
		err api.Errno
	}{{"q[i]", api.ErrNotFound}, {"a[i] < c[i]", api.ErrType}, {"t[i]", api.ErrGradient}, {"cast(int, a[i])", api.ErrGradient}, {"cast(frac, cast(int, a[i]))", api.ErrGradient}, {"if(c[0] < c[1], cast(frac, cast(int, -a[i])), c[0])", api.ErrGradient}, {"cast(frac, cast(int, if(a[i] < c[i], c[0], c[1])))", 0}, {"cast(frac, cast(fix(8, 4, even, sat), a[0]))", api.ErrGradient}, {strings.Repeat("(", 20) + "a[i]" + strings.Repeat("/a[i])", 20), api.ErrDepth}} {
		got, err := forward.Expr(p, parseExpr(t, x.s), []string{"a"})
		if err != x.err || err != api.OK && !expr.Same(got, api.Expr{}) {
			t.Errorf("Expr(%q) = %v, %v", x.s, got, err)
		}
	}
	if forward.TangentName("ab") != "d_ab" || forward.TangentName("") != "d_" {
		t.Error("TangentName")
	}
}

func TestProg(t *testing.T) {
	for _, x := range []struct {
		s    string
		of   []string
		want string
		err  api.Errno
	}{
		{"size n; in a: frac[n]; def s: frac[] = sum i < n: a[i] * a[i]; out s;", []string{"a"}, "size n;\nin a: frac[n];\nin d_a: frac[n];\ndef s: frac[] = sum i < n: a[i] * a[i];\ndef d_s: frac[] = sum i < n: d_a[i] * a[i] + a[i] * d_a[i];\nout s, d_s;\n", 0},
		{head + "def u: frac[i < n] = scan: a[i]; def w: frac[] = c[0]; def v: int[] = sum i < n: if(u[i] < c[i], int(1), int(0)); def x: frac[] = u[0] * w[]; out v, x, c, w, a;", []string{"c", "a"}, "size n;\nin a: frac[n];\nin c: frac[n];\nin t: int[n];\nin d_c: frac[n];\nin d_a: frac[n];\ndef u: frac[i < n] = scan: a[i];\ndef d_u: frac[i < n] = scan: d_a[i];\ndef w: frac[] = c[0];\ndef d_w: frac[] = d_c[0];\ndef v: int[] = sum i < n: if(u[i] < c[i], int(1), int(0));\ndef x: frac[] = u[0] * w[];\ndef d_x: frac[] = d_u[0] * w[] + u[0] * d_w[];\nout v, x, c, w, a, d_x, d_c, d_w, d_a;\n", 0},
		{head + "def u: frac[] = a[0]; out u;", nil, "size n;\nin a: frac[n];\nin c: frac[n];\nin t: int[n];\ndef u: frac[] = a[0];\nout u;\n", 0}, {"out q;", nil, "", api.ErrNotFound}, {head, []string{"q"}, "", api.ErrNotFound}, {head + "def u: frac[] = a[0];", []string{"u"}, "", api.ErrNotFound}, {head, []string{"a", "a"}, "", api.ErrDuplicate}, {head, []string{"t"}, "", api.ErrGradient}, {head, []string{"a", "t", "q"}, "", api.ErrGradient}, {head, []string{"a", "a", "q"}, "", api.ErrDuplicate},
		{head + "def u: int[] = cast(int, a[0]);", []string{"a"}, "", api.ErrGradient}, {head + "def u: int[] = cast(int, a[0]);", []string{"c"}, "size n;\nin a: frac[n];\nin c: frac[n];\nin t: int[n];\nin d_c: frac[n];\ndef u: int[] = cast(int, a[0]);\n", 0}, {head + "def u: frac[] = prod i < n: a[i];", []string{"a"}, "", api.ErrGradient}, {head + "def u: frac[] = min i < n: a[i];", []string{"a"}, "", api.ErrGradient}, {head + "def u: frac[] = max i < n: c[i];", []string{"a"}, "size n;\nin a: frac[n];\nin c: frac[n];\nin t: int[n];\nin d_a: frac[n];\ndef u: frac[] = max i < n: c[i];\n", 0}, {head + "def u: frac[] = prod i < n: cast(frac, cast(int, a[i]));", []string{"a"}, "", api.ErrGradient},
		{head + "in d_a: int[];", []string{"a"}, "", api.ErrDuplicate}, {"in abcdefghijklmnop: frac[];", []string{"abcdefghijklmnop"}, "", api.ErrName}, {"size d_a; in a: frac[];", []string{"a"}, "", api.ErrDuplicate}, {head + "def u: frac[d_u < n] = a[d_u];", []string{"a"}, "size n;\nin a: frac[n];\nin c: frac[n];\nin t: int[n];\nin d_a: frac[n];\ndef u: frac[d_u < n] = a[d_u];\ndef d_u: frac[d_u < n] = d_a[d_u];\n", 0},
	} {
		p := parse(t, x.s)
		got, err := forward.Prog(p, x.of)
		if printer.Prog(got) != x.want || err != x.err || err != api.OK && !program.Same(got, api.Prog{}) {
			t.Errorf("Prog(%q, %v) = %s, %v", x.s, x.of, printer.Prog(got), err)
		}
		if !program.Same(p, parse(t, x.s)) {
			t.Errorf("%q: the argument is changed", x.s)
		}
	}
}

func vector(name string, l string) api.Named {
	x := api.Tensor{Type: api.Type{Kind: api.KFrac}}
	for _, s := range strings.Fields(l) {
		v, _ := value.Parse(x.Type, s)
		x.Vals = append(x.Vals, v)
	}
	x.Dims = []int{len(x.Vals)}
	return api.Named{Name: name, Tensor: x}
}

// TestMeaning holds P26.4: the tangents are those of dual numbers.
func TestMeaning(t *testing.T) {
	p := parse(t, "size n; in a: frac[n]; in c: frac[n]; def u: frac[i < n] = a[i] / (c[i] + frac(1)) - min(a[i], c[i]) * max(a[0], c[i]); def w: frac[i < n] = scan: if(u[i] < a[i], u[i] * u[i], -cast(frac, a[n - 1 - i])); def s: frac[] = sum i < n, j < n: w[i] * u[j]; out s, a, w, u;")
	q, err := forward.Prog(p, []string{"a", "c"})
	if err != api.OK {
		t.Fatal(err)
	}
	a, c := vector("a", "1/2 3 -2"), vector("c", "1 1/3 4")
	sizes := []api.Binding{{Name: "n", Val: 3}}
	for _, along := range [][2]string{{"1 0 2", "-1 1/2 1"}, {"0 0 0", "0 0 0"}, {"0 1 0", "0 0 0"}} {
		outs, tangents, err := dual.Run(p, sizes, []api.Named{a, c}, []api.Named{vector("a", along[0]), vector("c", along[1])})
		got, err2 := eval.Run(q, sizes, []api.Named{a, c, vector("d_a", along[0]), vector("d_c", along[1])})
		if err != api.OK || err2 != api.OK || len(got) != 8 {
			t.Fatal(err, err2, len(got))
		}
		for i := range outs {
			if !tensor.Same(got[i].Tensor, outs[i].Tensor) || !tensor.Same(got[4+i].Tensor, tangents[i].Tensor) || got[4+i].Name != forward.TangentName(tangents[i].Name) {
				t.Errorf("%v: %v and %v", along, got[4+i], tangents[i])
			}
			for _, v := range tangents[i].Tensor.Vals {
				if along[0] == "0 0 0" && v.N != 0 {
					t.Error("tangents of zero are zero")
				}
			}
		}
	}
}
