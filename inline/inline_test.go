package inline_test

import (
	"slices"
	"strings"
	"testing"

	"brocade/api"
	"brocade/eval"
	"brocade/inline"
	"brocade/parser"
	"brocade/printer"
	"brocade/program"
	"brocade/tensor"
)

func parse(t *testing.T, s string) api.Prog {
	t.Helper()
	p, at, err := parser.Prog(s)
	if err != api.OK {
		t.Fatalf("%q: %d, %v", s, at, err)
	}
	return p
}

const head = "size n, m; in a: frac[n]; in g: int[n]; "

// defs returns the text of a program from its first definition on.
func defs(p api.Prog) string {
	s := printer.Prog(p)
	if at := strings.Index(s, "def "); at >= 0 {
		return strings.ReplaceAll(s[at:], "\n", " ")
	}
	return s
}

func TestOne(t *testing.T) {
	deep := strings.Repeat("-", 20)
	for _, x := range []struct {
		s, name, want string
		err           api.Errno
	}{
		{"def v: frac[i < n] = a[i] + frac(1); def w: frac[i < n] = v[i] * v[0]; out w;", "v", "def w: frac[i < n] = (a[i] + frac(1)) * (a[0] + frac(1)); out w; ", 0}, {"def v: frac[i < n] = a[i] + frac(1); def w: frac[i < n] = v[i] * v[0]; out v, w;", "v", "def v: frac[i < n] = a[i] + frac(1); def w: frac[i < n] = (a[i] + frac(1)) * (a[0] + frac(1)); out v, w; ", 0},
		{"in b: frac[n, m]; def v: frac[i < n, j < m] = b[i, j]; def w: frac[i < m, j < n] = v[j, i]; def x: int[] = sum j < n: cast(int, v[2*j - 1, n + 3]); out w;", "v", "def w: frac[i < m, j < n] = b[j, i]; def x: int[] = sum j < n: cast(int, b[2*j - 1, n + 3]); out w; ", 0}, {"in b: frac[n, n]; def v: frac[i < n, j < n] = b[i - 2*j + 1, g[j]] * cast(frac, [i + j + n]); def w: frac[i < n, j < n] = v[j + 1, i - n];", "v", "def w: frac[i < n, j < n] = b[-2*i + j + 2*n + 2, g[i - n]] * cast(frac, [i + j + 1]); ", 0},
		{"def v: int[] = int(3); def w: int[i < n] = v[] * v[]; def x: int[] = w[1] + v[];", "w", "def v: int[] = int(3); def x: int[] = v[] * v[] + v[]; ", 0}, {"def v: int[] = int(3);", "v", "size n, m;\nin a: frac[n];\nin g: int[n];\n", 0}, {"def v: int[i < n] = if([i] < [1], int(1), g[i]); def w: int[i < n] = v[n - 1] / v[i];", "v", "def w: int[i < n] = if([n - 1] < [1], int(1), g[n - 1]) / if([i] < [1], int(1), g[i]); ", 0},
		{"out q;", "v", "", api.ErrNotFound}, {"def v: frac[] = a[0];", "a", "", api.ErrNotFound}, {"def v: frac[] = a[0];", "q", "", api.ErrNotFound}, {"def v: frac[] = sum i < n: a[i];", "v", "", api.ErrArg}, {"def v: frac[i < n] = scan: a[i];", "v", "", api.ErrArg}, {"def v: int[i < n] = g[i]; def w: frac[] = a[v[0]];", "v", "", api.ErrArg}, {"def v: int[i < n] = g[i]; def w: int[] = v[g[0]];", "v", "", api.ErrArg}, {"def v: int[i < n] = g[g[i]]; def w: int[] = v[0];", "v", "def w: int[] = g[g[0]]; ", 0},
		{"def v: int[i < n] = [9223372036854775807*i]; def w: int[j < n] = v[2*j];", "v", "", api.ErrRange}, {"def v: int[i < n] = g[i] * [4*i + 9223372036854775807]; def w: int[j < n] = v[j] - v[j + 1];", "v", "", api.ErrRange}, {"def v: int[] = " + deep + "g[0]; def w: int[] = " + deep + "v[];", "v", "", api.ErrDepth}, {"def v: int[i < n] = [9223372036854775807*i]; def w: int[j < n] = int(1);", "v", "def w: int[j < n] = int(1); ", 0},
	} {
		p := parse(t, head+x.s)
		got, err := inline.One(p, x.name)
		if err != x.err || err == api.OK && defs(got) != x.want || err != api.OK && !program.Same(got, api.Prog{}) {
			t.Errorf("One(%q, %s) = %s, %v", x.s, x.name, defs(got), err)
		}
		check := inline.Check(p, x.name)
		if x.err != api.ErrRange && x.err != api.ErrDepth && check != x.err || (x.err == api.ErrRange || x.err == api.ErrDepth) && check != api.OK {
			t.Errorf("Check(%q, %s) = %v", x.s, x.name, check)
		}
		if !program.Same(p, parse(t, head+x.s)) {
			t.Errorf("%q: the argument is changed", x.s)
		}
	}
	if err := inline.Check(parse(t, "size n, n; def v: int[] = int(1);"), "v"); err != api.ErrDuplicate {
		t.Error(err)
	}
}

func TestAll(t *testing.T) {
	text := "def v: frac[i < n] = a[i] + frac(1); def s: frac[] = sum i < n: v[i]; def w: frac[i < n] = v[i] * s[]; def x: frac[] = w[0] + a[1]; out x, s;"
	for _, x := range []struct {
		s     string
		most  int
		want  string
		count int
	}{
		{text, 1, "def v: frac[i < n] = a[i] + frac(1); def s: frac[] = sum i < n: v[i]; def w: frac[i < n] = v[i] * s[]; def x: frac[] = w[0] + a[1]; out x, s; ", 0}, {text, 2, "def s: frac[] = sum i < n: a[i] + frac(1); def w: frac[i < n] = (a[i] + frac(1)) * s[]; def x: frac[] = w[0] + a[1]; out x, s; ", 1}, {text, 4, "def s: frac[] = sum i < n: a[i] + frac(1); def x: frac[] = (a[0] + frac(1)) * s[] + a[1]; out x, s; ", 2},
		{"def v: int[] = int(1); def w: int[] = v[]; out v;", 0, "def v: int[] = int(1); out v; ", 2}, {"def v: int[] = int(1); out v;", 9, "def v: int[] = int(1); out v; ", 0}, {"def v: int[] = int(1);", -1, "def v: int[] = int(1); ", 0},
	} {
		got, count := inline.All(parse(t, head+x.s), x.most)
		if defs(got) != x.want || count != x.count {
			t.Errorf("All(%q, %d) = %s, %d", x.s, x.most, defs(got), count)
		}
	}
	p := parse(t, "size n, n; def v: int[] = int(1);")
	if got, count := inline.All(p, 9); !program.Same(got, p) || count != 0 {
		t.Error("an invalid program")
	}
	// 24.4: the outputs stay the same.
	p = parse(t, head+text)
	a := api.Tensor{Type: api.Type{Kind: api.KFrac}, Dims: []int{2}, Vals: []api.Val{{N: 1, D: 2}, {N: 5, D: 1}}}
	g := api.Tensor{Type: api.Type{Kind: api.KInt}, Dims: []int{2}, Vals: []api.Val{{N: 1, D: 1}, {N: 0, D: 1}}}
	ins := []api.Named{{Name: "a", Tensor: a}, {Name: "g", Tensor: g}}
	sizes := []api.Binding{{Name: "n", Val: 2}, {Name: "m", Val: 1}}
	want, err := eval.Run(p, sizes, ins)
	if err != api.OK {
		t.Fatal(err)
	}
	for most := range 8 {
		q, _ := inline.All(p, most)
		got, err := eval.Run(q, sizes, ins)
		if err != api.OK || !slices.EqualFunc(got, want, func(a, b api.Named) bool { return a.Name == b.Name && tensor.Same(a.Tensor, b.Tensor) }) {
			t.Error(most, got, err)
		}
	}
}
