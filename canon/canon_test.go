package canon_test

import (
	"hash/fnv"
	"strings"
	"testing"

	"brocade/api"
	"brocade/canon"
	"brocade/eval"
	"brocade/loopnest"
	"brocade/nesttext"
	"brocade/parser"
	"brocade/printer"
	"brocade/program"
	"brocade/tensor"
)

func parse(t *testing.T, s string) api.Prog {
	t.Helper()
	p, at, err := parser.Prog(s)
	if err != api.OK {
		t.Fatalf("%q: %d, %v", s, at, err)
	}
	return p
}

func flat(s string) string { return strings.Join(strings.Fields(s), " ") }

func TestNormalize(t *testing.T) {
	for _, x := range []struct{ s, want string }{
		{"size n; in a: frac[n]; def s: frac[] = sum k < n: a[k]; out s;", "size s0; in p0: frac[s0]; def d0: frac[] = sum i0 < s0: p0[i0]; out d0;"}, {"size n, m; where 0 <= 2*n + m - 3; def x: int[] = [2*n + m]; out x;", "size s0, s1; where 0 <= 2*s0 + s1 - 3; def d0: int[] = [2*s0 + s1]; out d0;"}, {"", ""},
		{"size z, y; in i: int[z, y]; in b: frac[2*y - z]; def k: frac[i < z, j < y] = sum b < y, a < 3: b[i[j, b]] * cast(frac, [b - a + i + z]); def c: frac[j < z] = scan: k[j, 0] + b[j]; out c, i, k;", "size s0, s1; in p0: int[s0, s1]; in p1: frac[-s0 + 2*s1]; def d0: frac[i0 < s0, i1 < s1] = sum i2 < s1, i3 < 3: p1[p0[i1, i2]] * cast(frac, [i0 + i2 - i3 + s0]); def d1: frac[i0 < s0] = scan: d0[i0, 0] + p1[i0]; out d1, p0, d0;"},
		{"size i0, s1, s0; def p0: int[d1 < s0, s2 < i0] = [d1 + 2*s2 + 3*s0 + 4*i0 + 5*s1]; def d0: int[] = p0[0, 0];", "size s0, s1, s2; def d0: int[i0 < s2, i1 < s0] = [i0 + 2*i1 + 4*s0 + 5*s1 + 3*s2]; def d1: int[] = d0[0, 0];"},
	} {
		p := parse(t, x.s)
		got, err := canon.Normalize(p)
		again, err2 := canon.Normalize(got)
		if flat(printer.Prog(got)) != x.want || err != api.OK || err2 != api.OK || !program.Same(again, got) || !program.Same(p, parse(t, x.s)) {
			t.Errorf("Normalize(%q) = %s, %v", x.s, flat(printer.Prog(got)), err)
		}
		if at, err := program.Validate(got); err != api.OK {
			t.Errorf("%q: %d, %v", x.s, at, err)
		}
	}
	if p, err := canon.Normalize(parse(t, "out q;")); err != api.ErrNotFound || !program.Same(p, api.Prog{}) {
		t.Error(p, err)
	}
	// The sizes s2 and s10 are sorted as texts.
	p := parse(t, "size a, b, c, d, e, f, g, h, i, j, k; def x: int[] = [c + 2*k];")
	if got, _ := canon.Normalize(p); printer.Expr(got.Defs[0].Body) != "[2*s10 + s2]" {
		t.Error(printer.Prog(got))
	}
}

func TestMeaning(t *testing.T) {
	p := parse(t, "size m, n; in b: frac[n]; in a: int[n]; def z: frac[k < n] = scan: b[a[k]] * cast(frac, [k - m]); def y: frac[] = sum q < n: z[q]; out y, z;")
	n, err := canon.Normalize(p)
	if err != api.OK {
		t.Fatal(err)
	}
	b := api.Tensor{Type: api.Type{Kind: api.KFrac}, Dims: []int{2}, Vals: []api.Val{{N: 1, D: 2}, {N: 3, D: 1}}}
	a := api.Tensor{Type: api.Type{Kind: api.KInt}, Dims: []int{2}, Vals: []api.Val{{N: 1, D: 1}, {N: 0, D: 1}}}
	one, e1 := eval.Run(p, []api.Binding{{Name: "n", Val: 2}, {Name: "m", Val: 3}}, []api.Named{{Name: "a", Tensor: a}, {Name: "b", Tensor: b}})
	two, e2 := eval.Run(n, []api.Binding{{Name: "s1", Val: 2}, {Name: "s0", Val: 3}}, []api.Named{{Name: "p1", Tensor: a}, {Name: "p0", Tensor: b}})
	if e1 != api.OK || e2 != api.OK || !tensor.Same(one[0].Tensor, two[0].Tensor) || !tensor.Same(one[1].Tensor, two[1].Tensor) {
		t.Error(one, two, e1, e2)
	}
}

func TestProgramKey(t *testing.T) {
	p := parse(t, "size n, m; in a: frac[n]; def s: frac[] = sum k < n: a[k]; out s;")
	q := parse(t, "size k, a; in s: frac[k]; def x: frac[] = sum n < k: s[n]; out x;")
	bind := func(l ...api.Binding) []api.Binding { return l }
	one, err := canon.ProgramKey(p, bind(api.Binding{Name: "m", Val: -5}, api.Binding{Name: "n", Val: 3}, api.Binding{Name: "n", Val: 7}))
	two, err2 := canon.ProgramKey(q, bind(api.Binding{Name: "k", Val: 3}, api.Binding{Name: "a", Val: -5}, api.Binding{Name: "z", Val: 1}))
	want := "size s0, s1;\nin p0: frac[s0];\ndef d0: frac[] = sum i0 < s0: p0[i0];\nout d0;\n 3 -5"
	if one != want || two != want || err != api.OK || err2 != api.OK {
		t.Errorf("%q, %q, %v, %v", one, two, err, err2)
	}
	if other, _ := canon.ProgramKey(p, bind(api.Binding{Name: "n", Val: 4}, api.Binding{Name: "m", Val: -5})); other == want {
		t.Error("other sizes have another key")
	}
	for _, x := range []struct {
		p   api.Prog
		l   []api.Binding
		err api.Errno
	}{{parse(t, "size n; out n;"), nil, api.ErrNotFound}, {parse(t, "size n, n;"), nil, api.ErrDuplicate}, {p, bind(api.Binding{Name: "n", Val: 3}), api.ErrNotFound}} {
		if key, err := canon.ProgramKey(x.p, x.l); key != "" || err != x.err {
			t.Errorf("%q, %v", key, err)
		}
	}
}

func TestNestKey(t *testing.T) {
	for _, x := range []struct{ s, want string }{
		{"a: frac[2] in; c: frac[2] out; for i < 2 { c[i] = a[i] }", "b0: frac[2] in b1: frac[2] out for l0 < 2 { b1[l0] = b0[l0] }"}, {"z: int[2, 2] in; b1: int[4] out; l0: int[] temp; for b0 < 2 parallel { l0[] = z[b0, 1]; for a < 2 { if z[a, b0] < [b0 - a] { b1[z[a, b0]] sum= l0[] + z[z[0, a], l0[]] } } }; for l1 < 2 { b1[2*l1] = int(0) }", "b0: int[2, 2] in b1: int[4] out b2: int[] temp for l0 < 2 parallel { b2[] = b0[l0, 1] for l1 < 2 { if b0[l1, l0] < [l0 - l1] { b1[b0[l1, l0]] sum= b2[] + b0[b0[0, l1], b2[]] } } } for l2 < 2 { b1[2*l2] = int(0) }"}, {"", ""},
	} {
		n, ok := nesttext.Parse(x.s)
		got, key, err := canon.NestKey(n)
		if !ok || flat(key) != x.want || loopnest.Format(got) != key || err != api.OK {
			t.Errorf("NestKey(%q) = %q, %v", x.s, flat(key), err)
		}
		if way, err := loopnest.Validate(got); err != api.OK {
			t.Errorf("%q: %v, %v", x.s, way, err)
		}
		again, key2, err := canon.NestKey(got)
		if !loopnest.Same(again, got) || key2 != key || err != api.OK {
			t.Errorf("%q: twice is not once", x.s)
		}
	}
	bad, _ := nesttext.Parse("c[0] = c[0]")
	if n, key, err := canon.NestKey(bad); err != api.ErrNotFound || key != "" || !loopnest.Same(n, api.Nest{}) {
		t.Error(n, key, err)
	}
}

func TestHash(t *testing.T) {
	if canon.Hash("") != 14695981039346656037 || canon.Hash("a") != 12638187200555641996 {
		t.Error("Hash")
	}
	for _, s := range []string{"brocade", "\x00\xff", strings.Repeat("xyz", 1000)} {
		h := fnv.New64a()
		h.Write([]byte(s))
		if canon.Hash(s) != h.Sum64() {
			t.Errorf("Hash(%.10q)", s)
		}
	}
}
