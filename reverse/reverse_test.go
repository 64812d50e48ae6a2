package reverse_test

import (
	"strconv"
	"strings"
	"testing"

	"brocade/api"
	"brocade/dual"
	"brocade/eval"
	"brocade/frac"
	"brocade/parser"
	"brocade/printer"
	"brocade/program"
	"brocade/reverse"
	"brocade/value"
)

func parse(t *testing.T, s string) api.Prog {
	t.Helper()
	p, at, err := parser.Prog(s)
	if err != api.OK {
		t.Fatalf("%q: %d, %v", s, at, err)
	}
	return p
}

const head = "size n; in a: frac[n]; in c: frac[n]; in t: int[n]; "

func TestPartials(t *testing.T) {
	for _, x := range []struct {
		body string
		want []string
	}{
		{"a[i]", []string{"a[i]", "frac(1)"}}, {"a[i] + c[i]", []string{"a[i]", "frac(1)", "c[i]", "frac(1)"}}, {"a[i] - c[i]", []string{"a[i]", "frac(1)", "c[i]", "-frac(1)"}}, {"a[i] * c[0]", []string{"a[i]", "frac(1) * c[0]", "c[0]", "frac(1) * a[i]"}}, {"a[i] / c[0]", []string{"a[i]", "frac(1) / c[0]", "c[0]", "-(frac(1) * a[i] / (c[0] * c[0]))"}}, {"-a[i]", []string{"a[i]", "-frac(1)"}},
		{"min(a[i], c[i])", []string{"a[i]", "if(a[i] <= c[i], frac(1), frac(0))", "c[i]", "if(a[i] <= c[i], frac(0), frac(1))"}}, {"max(a[i], c[i])", []string{"a[i]", "if(c[i] <= a[i], frac(1), frac(0))", "c[i]", "if(c[i] <= a[i], frac(0), frac(1))"}}, {"if(a[i] < c[i], a[0], c[0])", []string{"a[0]", "if(a[i] < c[i], frac(1), frac(0))", "c[0]", "if(a[i] < c[i], frac(0), frac(1))"}},
		{"cast(frac, -a[t[i]]) * cast(frac, t[0])", []string{"a[t[i]]", "-(frac(1) * cast(frac, t[0]))"}}, {"frac(2) + cast(frac, cast(int, a[i]))", nil},
	} {
		p := parse(t, head+"def u: frac[i < n] = "+x.body+";")
		l, err := reverse.Partials(p, 0)
		var got []string
		for _, y := range l {
			got = append(got, printer.Expr(y.Read), printer.Expr(y.Factor))
		}
		if strings.Join(got, ";") != strings.Join(x.want, ";") || err != api.OK {
			t.Errorf("Partials(%q) = %q, %v", x.body, got, err)
		}
	}
	p := parse(t, head+"def u: int[] = t[0];")
	for def, code := range map[int]api.Errno{0: api.ErrGradient, 1: api.ErrNotFound, -1: api.ErrNotFound} {
		if l, err := reverse.Partials(p, def); err != code || len(l) != 0 {
			t.Errorf("Partials(%d) = %v, %v", def, l, err)
		}
	}
	p.Outs = []string{"q"}
	if _, err := reverse.Partials(p, 7); err != api.ErrNotFound {
		t.Error(err)
	}
	if reverse.AdjointName("ab") != "g_ab" {
		t.Error("AdjointName")
	}
}

func TestAdjoint(t *testing.T) {
	for _, x := range []struct {
		s, of, want string
		err         api.Errno
	}{
		{"def u: frac[] = sum i < n: a[i] * a[i];", "a", "def g_a: frac[q0 < n] = sum i < n: if([i] == [q0], g_u[] * (frac(1) * a[i]), frac(0)) + if([i] == [q0], g_u[] * (frac(1) * a[i]), frac(0));", 0}, {"def u: frac[i < n] = a[t[i]] - c[i];", "a", "def g_a: frac[q0 < n] = sum i < n: if(min(max(t[i], [0]), [n - 1]) == [q0], g_u[i] * frac(1), frac(0));", 0}, {"def u: frac[i < n] = scan: a[n - 1 - i];", "a", "def g_a: frac[q0 < n] = sum i < n, t1 < n: if([-i + n - 1] == [q0] & [i] <= [t1], g_u[t1] * frac(1), frac(0));", 0},
		{"def b: frac[j < 2, q0 < n] = c[0]; def q01: frac[] = b[1, 0];", "b", "def g_b: frac[q02 < 2, q1 < n] = if([1] == [q02] & [0] == [q1], g_q01[] * frac(1), frac(0));", 0}, {"def s: frac[] = c[0]; def u: frac[] = s[] * s[];", "s", "def g_s: frac[] = g_u[] * (frac(1) * s[]) + g_u[] * (frac(1) * s[]);", 0}, {"def s: frac[] = c[0]; def u: frac[i < n] = scan: s[];", "s", "def g_s: frac[] = sum i < n, t1 < n: if([i] <= [t1], g_u[t1] * frac(1), frac(0));", 0},
		{"def u: frac[] = c[0];", "a", "", 0}, {"def u: frac[] = c[0];", "q", "", api.ErrNotFound}, {"def u: frac[] = c[0];", "t", "", api.ErrGradient}, {"def u: frac[] = prod i < n: c[i];", "c", "", api.ErrGradient}, {"def u: frac[] = min i < n: c[i];", "c", "", api.ErrGradient}, {"def u: frac[] = max i < n: c[i];", "c", "", api.ErrGradient}, {"def u: frac[] = max i < n: c[i];", "a", "", 0}, {"def u: frac[] = prod i < n: c[i];", "a", "", 0}, {"def u: int[] = t[0];", "a", "", api.ErrGradient}, {"in abcdefghijklmno: frac[]; def u: frac[] = abcdefghijklmno[];", "abcdefghijklmno", "", api.ErrName}, {"def abcdefghijklmno: frac[] = a[0];", "a", "", api.ErrName}, {"def abcdefghijklmn: frac[] = a[0];", "a", "def g_a: frac[q0 < n] = if([0] == [q0], g_abcdefghijklmn[] * frac(1), frac(0));", 0},
		{"def u: frac[i < 2, j < 2, k < 2, l < 2] = sum v < 2, w < 2, x < 2: a[i];", "a", "", api.ErrRank}, {"def u: frac[i < 2, j < 2, k < 2] = sum v < 2, w < 2, x < 2: c[0];", "c", "def g_c: frac[q0 < n] = sum i < 2, j < 2, k < 2, v < 2, w < 2, x < 2: if([0] == [q0], g_u[i, j, k] * frac(1), frac(0));", 0}, {"def u: frac[i < 2, j < 2, k < 2, l < 2, v < 2, w < 2] = scan: a[i];", "a", "", api.ErrRank}, {"in b: frac[-9223372036854775808]; def u: frac[] = b[t[0]];", "b", "", api.ErrRange}, {"in b: frac[-9223372036854775808]; def u: frac[] = b[0];", "b", "def g_b: frac[q0 < -9223372036854775808] = if([0] == [q0], g_u[] * frac(1), frac(0));", 0},
	} {
		p := parse(t, head+x.s)
		d, ok, err := reverse.Adjoint(p, len(p.Defs)-1, x.of)
		if printer.Def(d) != x.want || ok != (x.want != "") || err != x.err || !ok && d.Name != "" {
			t.Errorf("Adjoint(%q, %s) = %s, %v, %v", x.s, x.of, printer.Def(d), ok, err)
		}
	}
}

func TestProg(t *testing.T) {
	for _, x := range []struct {
		s, out string
		of     []string
		want   string
		err    api.Errno
	}{
		{"def s: frac[] = sum i < n: a[i] * c[i]; out s, c;", "s", []string{"a"}, "in g_s: frac[];\ndef s: frac[] = sum i < n: a[i] * c[i];\ndef g_a: frac[q0 < n] = sum i < n: if([i] == [q0], g_s[] * (frac(1) * c[i]), frac(0));\nout g_a;\n", 0},
		{"def u: frac[i < n] = a[i]; def v: frac[i < n] = u[i] + a[0]; def w: frac[i < n] = c[i]; def s: frac[] = sum i < n: u[i] * v[i] * w[i]; def x: int[] = t[0];", "s", []string{"a", "c"}, "in g_s: frac[];\ndef u: frac[i < n] = a[i];\ndef v: frac[i < n] = u[i] + a[0];\ndef w: frac[i < n] = c[i];\ndef s: frac[] = sum i < n: u[i] * v[i] * w[i];\ndef x: int[] = t[0];\ndef g_w: frac[q0 < n] = sum i < n: if([i] == [q0], g_s[] * (frac(1) * (u[i] * v[i])), frac(0));\ndef g_v: frac[q0 < n] = sum i < n: if([i] == [q0], g_s[] * (frac(1) * w[i] * u[i]), frac(0));\ndef h7: frac[q0 < n] = sum i < n: if([i] == [q0], g_v[i] * frac(1), frac(0));\ndef h8: frac[q0 < n] = sum i < n: if([i] == [q0], g_s[] * (frac(1) * w[i] * v[i]), frac(0));\ndef g_u: frac[q0 < n] = h7[q0] + h8[q0];\ndef h10: frac[q0 < n] = sum i < n: if([i] == [q0], g_u[i] * frac(1), frac(0));\ndef h11: frac[q0 < n] = sum i < n: if([0] == [q0], g_v[i] * frac(1), frac(0));\ndef g_a: frac[q0 < n] = h10[q0] + h11[q0];\ndef g_c: frac[q0 < n] = sum i < n: if([i] == [q0], g_w[i] * frac(1), frac(0));\nout g_a, g_c;\n", 0},
		{"def s: frac[] = c[0];", "s", []string{"a"}, "in g_s: frac[];\ndef s: frac[] = c[0];\ndef g_a: frac[q0 < n] = frac(0);\nout g_a;\n", 0}, {"def s: frac[] = c[0];", "s", nil, "in g_s: frac[];\ndef s: frac[] = c[0];\n", 0}, {"def s: frac[] = if(a[0] < c[0], c[0], c[1]);", "s", []string{"a"}, "in g_s: frac[];\ndef s: frac[] = if(a[0] < c[0], c[0], c[1]);\ndef g_a: frac[q0 < n] = frac(0);\nout g_a;\n", 0},
		{"out q;", "s", nil, "", api.ErrNotFound}, {"def s: frac[] = a[0];", "a", nil, "", api.ErrNotFound}, {"def s: frac[] = a[0];", "s", []string{"a", "a", "s"}, "", api.ErrNotFound}, {"def s: frac[] = a[0];", "s", []string{"t", "t"}, "", api.ErrDuplicate}, {"def s: frac[] = a[0];", "s", []string{"t"}, "", api.ErrGradient}, {"def s: int[] = t[0];", "s", []string{"a"}, "", api.ErrGradient}, {"def s: frac[] = prod i < n: a[i];", "s", []string{"a"}, "", api.ErrGradient}, {"def s: frac[] = min i < n: a[i];", "s", []string{"a"}, "", api.ErrGradient}, {"def u: frac[i < 2, j < 2, k < 2, l < 2] = sum v < 2, w < 2, x < 2: a[i]; def s: frac[] = u[0, 0, 0, 0];", "s", []string{"a"}, "", api.ErrRank}, {"def s: frac[] = max i < n: a[i];", "s", []string{"a"}, "", api.ErrGradient}, {"def v: int[] = sum i < n: cast(int, a[i]); def s: frac[] = a[0] * cast(frac, v[]);", "s", []string{"a"}, "", api.ErrGradient}, {"def s: frac[] = prod i < n: a[i];", "s", []string{"c"}, "in g_s: frac[];\ndef s: frac[] = prod i < n: a[i];\ndef g_c: frac[q0 < n] = frac(0);\nout g_c;\n", 0},
		{"def v: int[] = cast(int, a[0]); def s: frac[] = if(v[] < int(1), c[0], c[1]);", "s", []string{"a"}, "", api.ErrGradient}, {"def s: frac[] = a[0] * cast(frac, cast(int, a[1]));", "s", []string{"a"}, "", api.ErrGradient}, {"def s: frac[] = if(cast(int, a[0]) < int(1), a[0], c[0]);", "s", []string{"a"}, "in g_s: frac[];\ndef s: frac[] = if(cast(int, a[0]) < int(1), a[0], c[0]);\ndef g_a: frac[q0 < n] = if([0] == [q0], g_s[] * if(cast(int, a[0]) < int(1), frac(1), frac(0)), frac(0));\nout g_a;\n", 0}, {"in g_s: int[]; def s: frac[] = a[0];", "s", []string{"a"}, "", api.ErrDuplicate}, {"def abcdefghijklmno: frac[] = c[0];", "abcdefghijklmno", nil, "", api.ErrName}, {"def u: frac[] = a[0]; def abcdefghijklmno: frac[] = u[];", "abcdefghijklmno", []string{"a"}, "", api.ErrName},
	} {
		got, err := reverse.Prog(parse(t, head+x.s), x.out, x.of)
		text := strings.TrimPrefix(printer.Prog(got), "size n;\nin a: frac[n];\nin c: frac[n];\nin t: int[n];\n")
		if text != x.want || err != x.err || err != api.OK && !program.Same(got, api.Prog{}) {
			t.Errorf("Prog(%q) = %s, %v", x.s, text, err)
		}
	}
}

func vector(name, l string) api.Named {
	x := api.Tensor{Type: api.Type{Kind: api.KFrac}}
	for _, s := range strings.Fields(l) {
		v, _ := value.Parse(x.Type, s)
		x.Vals = append(x.Vals, v)
	}
	x.Dims = []int{len(x.Vals)}
	return api.Named{Name: name, Tensor: x}
}

func dot(a, b []api.Val) api.Val {
	sum := api.Val{N: 0, D: 1}
	for i := range a {
		p, _ := frac.Mul(a[i], b[i])
		sum, _ = frac.Add(sum, p)
	}
	return sum
}

// TestTranspose holds 27.4 with dual numbers.
func TestTranspose(t *testing.T) {
	for k, s := range []string{
		"def s: frac[i < n] = a[i] * a[i] - c[n - 1 - i] / a[0];", "def s: frac[i < n] = scan: a[i] * c[i];", "def u: frac[i < n] = min(a[i], c[i]) * max(a[t[i]], frac(1)); def v: frac[i < n] = scan: u[i] + a[0]; def s: frac[i < n] = sum j < n: if([i] <= [j], u[i] * v[j], -cast(frac, v[i]));", "def s: frac[i < n] = sum j < n: if(a[j] < c[i], a[j] / (c[i] + frac(7)), c[t[j]]);", "def m: frac[] = max(a[0], a[1]); def s: frac[i < n] = m[] * c[i];",
	} {
		p := parse(t, head+s+" out s;")
		q, err := reverse.Prog(p, "s", []string{"c", "a"})
		if err != api.OK {
			t.Fatal(k, err)
		}
		if at, err := program.Validate(q); err != api.OK {
			t.Fatal(at, err)
		}
		tt := vector("t", "2 0 5")
		tt.Tensor.Type.Kind = api.KInt
		for m := range 4 {
			a, c := vector("a", "1/2 1/2 "+strconv.Itoa(m-1)), vector("c", "1 -2 3")
			da, dc := vector("a", "1 2 -1"), vector("c", "0 "+strconv.Itoa(m)+" 1/2")
			seed := vector("g_s", "1 -1 "+strconv.Itoa(2*m))
			sizes := []api.Binding{{Name: "n", Val: 3}}
			_, tangent, err := dual.Run(p, sizes, []api.Named{a, c, tt}, []api.Named{da, dc})
			grad, err2 := eval.Run(q, sizes, []api.Named{a, c, tt, seed})
			if err != api.OK || err2 != api.OK || grad[0].Name != "g_c" {
				t.Fatal(k, err, err2)
			}
			left := dot(seed.Tensor.Vals, tangent[0].Tensor.Vals)
			x, y := dot(grad[0].Tensor.Vals, dc.Tensor.Vals), dot(grad[1].Tensor.Vals, da.Tensor.Vals)
			if right, _ := frac.Add(x, y); left != right {
				t.Errorf("program %d: %v and %v", k, left, right)
			}
		}
	}
}
