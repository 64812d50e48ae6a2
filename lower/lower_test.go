package lower_test

import (
	"strings"
	"testing"

	"brocade/api"
	"brocade/eval"
	"brocade/interp"
	"brocade/loopnest"
	"brocade/lower"
	"brocade/parser"
	"brocade/tensor"
	"brocade/value"
)

func parse(t *testing.T, s string) api.Prog {
	t.Helper()
	p, at, err := parser.Prog(s)
	if err != api.OK {
		t.Fatalf("%q: %d, %v", s, at, err)
	}
	return p
}

func bind(n, m int64) []api.Binding {
	return []api.Binding{{Name: "n", Val: n}, {Name: "m", Val: m}}
}

func flat(n api.Nest) string { return strings.Join(strings.Fields(loopnest.Format(n)), " ") }

const head = "size n, m; in a: frac[n, m]; in f: fix(4, 3, even, sat)[m]; "

func TestDef(t *testing.T) {
	for _, x := range []struct{ s, want string }{
		{"def s: frac[i < n] = sum j < m: a[i, j];", "for s_i < 2 { s[s_i] = frac(0) for s_j < 3 { s[s_i] sum= a[s_i, s_j] } }"}, {"def s: frac[] = max j < m: a[0, j];", "s[] = a[0, 0] for s_j < 3 { if [0] < [s_j] { s[] max= a[0, s_j] } }"}, {"def s: frac[i < 2] = min j < m, k < n: a[k, j] * cast(frac, [i + j + m]);", "for s_i < 2 { s[s_i] = a[0, 0] * cast(frac, [s_i + 3]) for s_j < 3 { for s_k < 2 { if [0] < [s_j + s_k] { s[s_i] min= a[s_k, s_j] * cast(frac, [s_i + s_j + 3]) } } } }"}, {"def s: frac[] = prod j < m: a[0, j];", "s[] = frac(1) for s_j < 3 { s[] prod= a[0, s_j] }"}, {"def s: fix(4, 3, even, sat)[] = prod j < m: f[j];", "s[] = f[0] for s_j < 3 { if [0] < [s_j] { s[] prod= f[s_j] } }"},
		{"def s: frac[i < n, j < m] = scan: a[i, j];", "for s_i < 2 { for s_j < 3 { s[s_i, s_j] = a[s_i, s_j] if [0] < [s_j] { s[s_i, s_j] sum= s[s_i, s_j - 1] } } }"}, {"def s: frac[] = a[n - 1, m - 1];", "s[] = a[1, 2]"}, {"def s: int[i < n, s_i < m, z < 1] = [2*i - s_i + z + n];", "for s_i < 2 { for s_s_i < 3 { for s_z < 1 { s[s_i, s_s_i, s_z] = [2*s_i - s_s_i + s_z + 2] } } }"}, {"def b: int[zz < n, a < m] = [zz + 2*a];", "for b_zz < 2 { for b_a < 3 { b[b_zz, b_a] = [2*b_a + b_zz] } }"},
	} {
		p := parse(t, head+x.s)
		l, err := lower.Def(p, bind(2, 3), 0)
		if got := flat(api.Nest{Body: l}); got != x.want || err != api.OK {
			t.Errorf("Def(%q) = %s, %v", x.s, got, err)
		}
	}
	for _, x := range []struct {
		s    string
		n, m int64
		def  int
		err  api.Errno
	}{{"out q;", 0, 0, 9, api.ErrNotFound}, {"", 0, 0, 9, api.ErrSize}, {"", 1, 1, 0, api.ErrNotFound}, {"def s: int[] = int(1);", 1, 1, -1, api.ErrNotFound}, {"def s: int[i < n - 5] = sum k < n - 9: int(1);", 5, 1, 0, api.ErrSize}, {"def s: int[i < 64*n] = sum k < 9223372036854775807*n: int(1);", 64, 1, 0, api.ErrRange}, {"def s: int[i < 65*n] = int(1);", 64, 1, 0, api.ErrSize}, {"def abcdefgh: int[i < n] = sum ijklmnop < n - 9: int(1);", 9, 1, 0, api.ErrSize}, {"def abcdefgh: int[i < n] = sum ijklmnop < n: [9223372036854775807*n];", 9, 1, 0, api.ErrName}, {"def s: int[i < n] = [9223372036854775807*n];", 9, 1, 0, api.ErrRange}, {"def abcdefgh: int[i < n] = sum ijklmno < n: int(1);", 9, 1, 0, 0}} {
		if l, err := lower.Def(parse(t, head+x.s), bind(x.n, x.m), x.def); err != x.err || err != api.OK && len(l) != 0 {
			t.Errorf("Def(%q, %d) = %v, %v; want %v", x.s, x.def, l, err, x.err)
		}
	}
	for _, x := range [][3]string{{"s", "i", "s_i"}, {"s", "I", ""}, {"", "i", ""}, {"abcdefgh", "ijklmno", "abcdefgh_ijklmno"}, {"abcdefgh", "ijklmnop", ""}, {"S", "i", ""}, {"sum", "i", "sum_i"}} {
		if got := lower.LoopName(x[0], x[1]); got != x[2] {
			t.Errorf("LoopName(%v) = %q", x, got)
		}
	}
}

func TestProg(t *testing.T) {
	p := parse(t, head+"def s: frac[i < n] = sum j < m: a[i, j]; def u: frac[] = s[0]; out u;")
	n, err := lower.Prog(p, bind(2, 3))
	want := "a: frac[2, 3] in f: fix(4, 3, even, sat)[3] in s: frac[2] temp u: frac[] out for s_i < 2 { s[s_i] = frac(0) for s_j < 3 { s[s_i] sum= a[s_i, s_j] } } u[] = s[0]"
	if flat(n) != want || err != api.OK {
		t.Error(flat(n), err)
	}
	sized := parse(t, "size n, m; in a: frac[n]; in b: frac[m]; def c: frac[i < n] = a[i]; def d: frac[i < m] = b[i]; out c, d;")
	n, err = lower.Prog(sized, bind(1, 4096))
	want = "a: frac[1] in b: frac[4096] in c: frac[1] out d: frac[4096] out for c_i < 1 { c[c_i] = a[c_i] } for d_i < 4096 { d[d_i] = b[d_i] }"
	if flat(n) != want || err != api.OK {
		t.Error(flat(n), err)
	}
	for _, sizes := range [][2]int64{{0, 1}, {1, 4097}} {
		if _, err := lower.Prog(sized, bind(sizes[0], sizes[1])); err != api.ErrSize {
			t.Error(sizes, err)
		}
	}
	for _, x := range []struct {
		s    string
		n, m int64
		err  api.Errno
	}{{"out q;", 0, 0, api.ErrNotFound}, {"out a;", 0, 0, api.ErrSize}, {"in b: int[n - 1];", 1, 1, api.ErrSize}, {"in b: int[n - 1]; out a;", 1, 1, api.ErrArg}, {"in b: int[n - 1]; def s: int[i < n - 2] = int(1);", 1, 1, api.ErrSize}, {"def s: frac[i < n] = a[i, 0]; def s_i: int[] = int(1);", 1, 1, api.ErrDuplicate}, {"def s: frac[i_j < n] = a[0, 0]; def s_i: frac[j < n] = a[0, 0];", 1, 1, api.ErrDuplicate}, {"def x: int[] = int(1) / int(0); def abcdefghijklmno: int[i < n] = int(1);", 1, 1, api.ErrName}} {
		if n, err := lower.Prog(parse(t, head+x.s), bind(x.n, x.m)); err != x.err || !loopnest.Same(n, api.Nest{}) {
			t.Errorf("Prog(%q) = %s, %v; want %v", x.s, flat(n), err, x.err)
		}
	}
}

func data(name string, t api.Type, dims []int, vals string) api.Named {
	x := api.Tensor{Type: t, Dims: dims}
	for _, s := range strings.Fields(vals) {
		v, _ := value.Parse(t, s)
		x.Vals = append(x.Vals, v)
	}
	return api.Named{Name: name, Tensor: x}
}

// TestMeaning holds P32.4.
func TestMeaning(t *testing.T) {
	fix := parse(t, head).Params[1].Type
	ins := []api.Named{data("a", api.Type{Kind: api.KFrac}, []int{2, 3}, "1 1/2 -1 2 0 3"), data("f", fix, []int{3}, "7/8 -1 3/8")}
	for _, s := range []string{
		"def r: frac[i < n] = prod j < m: a[i, j] + frac(1); def lo: frac[j < m] = min i < n: a[i, j]; def hi: frac[] = max i < n, j < m: a[i, j]; out r, hi, lo;", "def p: frac[i < n, j < m] = scan: a[i, j]; def q: fix(4, 3, even, sat)[j < m] = scan: f[j]; def g: fix(4, 3, even, sat)[] = prod j < m: f[j]; def h: fix(4, 3, even, sat)[] = sum j < m, i < n: f[j]; out p, q, g, h;", "def e: int[i < n, j < m] = [10*i + j] / [2*j - 2]; out e;", "def e: frac[i < n] = a[i, i + 2]; out e;", "def e: frac[i < n] = if([i] < [1], a[i, m - 1], frac(1)) / (a[1, i] - frac(1)); def d: frac[] = sum i < n: e[i] * e[n - 1 - i]; out d;", "def k: int[j < m] = int(2) - [j]; def e: frac[j < m] = a[1, k[j]]; out e, k;",
	} {
		p := parse(t, head+s)
		want, err := eval.Run(p, bind(2, 3), ins)
		n, e1 := lower.Prog(p, bind(2, 3))
		mem, e2 := interp.InitMemory(n, ins)
		if e1 != api.OK || e2 != api.OK {
			t.Fatal(s, e1, e2)
		}
		got, _, err2 := interp.Run(n, mem, api.MaxSteps)
		if err != err2 {
			t.Errorf("%q: %v and %v", s, err, err2)
		}
		for _, x := range interp.Outputs(n, got) {
			for _, y := range want {
				if x.Name == y.Name && !tensor.Same(x.Tensor, y.Tensor) {
					t.Errorf("%q: %v and %v", s, x, y)
				}
			}
		}
		if err == api.OK && len(interp.Outputs(n, got)) != len(want) {
			t.Errorf("%q: outputs", s)
		}
	}
}
