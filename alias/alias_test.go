package alias_test

import (
	"slices"
	"strings"
	"testing"

	"brocade/alias"
	"brocade/api"
	"brocade/interp"
	"brocade/loopnest"
	"brocade/nesttext"
	"brocade/tensor"
)

func parse(t *testing.T, s string) api.Nest {
	t.Helper()
	n, ok := nesttext.Parse(s)
	if !ok {
		t.Fatalf("%q is no nest", s)
	}
	return n
}

const bufs = "a: frac[3] in; d: frac[3] temp; e: frac[3] temp; c: frac[3] out; t: int[3] in; u: int[3] temp; w: frac[4] temp; s: frac[] temp; r: frac[] temp; "

const chain = "for i < 3 { d[i] = a[i] }; for j < 3 { e[j] = d[j] * frac(2) }; for k < 3 { c[k] = e[k] }"

func memory(n api.Nest) []api.Named {
	var ins []api.Named
	for i, name := range []string{"a", "t"} {
		x := api.Tensor{Type: api.Type{Kind: []int{api.KFrac, api.KInt}[i]}, Dims: []int{3}}
		for k := range 3 {
			x.Vals = append(x.Vals, api.Val{N: int64(2*k + 1), D: 1})
		}
		ins = append(ins, api.Named{Name: name, Tensor: x})
	}
	mem, _ := interp.InitMemory(n, ins)
	return mem
}

func TestCheck(t *testing.T) {
	for _, x := range []struct {
		s, from, to string
		err         api.Errno
	}{
		{chain, "e", "d", 0}, {chain, "d", "e", api.ErrDependence}, {strings.Replace(chain, "d[j] *", "d[2 - j] *", 1), "e", "d", api.ErrDependence}, {"for i < 3 { d[i] = a[i] }; for k < 3 { c[k] = e[k] }", "e", "d", api.ErrDependence}, {chain + "; c[0] sum= d[0]", "e", "d", api.ErrDependence}, {"for i < 3 { d[i] = a[i] }; for j < 3 { e[j] sum= d[j] }", "e", "d", api.ErrDependence}, {"for i < 3 { d[i] = a[i] }; e[0] = a[0]; e[0] sum= d[0]", "e", "d", api.ErrDependence}, {"for i < 3 { d[i] = a[i] }; e[0] = d[0]; e[0] sum= a[0]", "e", "d", 0},
		{"for i < 3 { d[i] = a[i] }; for j < 3 { if d[j] < a[0] { e[j] = d[j] } }; c[0] = e[0]", "e", "d", api.ErrDependence}, {"for i < 3 { d[i] = a[i] }; for j < 3 { if d[j] < a[0] { e[j] = d[j] } }", "e", "d", 0}, {"s[] = a[0]; if a[0] < a[1] { r[] = s[] }; c[0] = r[]", "r", "s", api.ErrDependence}, {"s[] = a[0]; r[] = s[]; c[0] = r[]", "r", "s", 0}, {"for i < 3 { d[i] = a[i] }; e[t[0]] = a[0]; c[0] = e[t[0]]", "e", "d", api.ErrDependence}, {"e[t[0]] = a[0]; c[0] = a[0]", "e", "d", 0}, {"for i < 3 { e[i] = a[i] }; c[0] = e[t[0]]", "e", "d", 0}, {"", "d", "e", 0}, {"d[0] = a[0]; e[1] = a[0]; c[0] = d[0]", "e", "d", 0}, {"d[0] = a[0]; e[0] = a[0]; c[0] = d[0]", "e", "d", api.ErrDependence}, {"d[0] = a[0]; e[0] = a[0]; d[0] = a[1]", "e", "d", api.ErrDependence},
		{"c[q] = a[0]", "q", "q", api.ErrNotFound}, {"", "q", "d", api.ErrNotFound}, {"", "d", "q", api.ErrNotFound}, {"", "d", "d", api.ErrArg}, {"", "a", "d", api.ErrArg}, {"", "d", "c", api.ErrArg}, {"", "d", "u", api.ErrType}, {"", "u", "w", api.ErrType}, {"", "d", "w", api.ErrSize}, {"if a[0] < a[1] { }", "d", "w", api.ErrSize}, {"for i < 2049 { c[0] = a[0] }", "d", "e", api.ErrLimit},
	} {
		n := parse(t, bufs+x.s)
		if err := alias.Check(n, x.from, x.to); err != x.err {
			t.Errorf("Check(%q, %s, %s) = %v; want %v", x.s, x.from, x.to, err, x.err)
		}
		got, err := alias.Apply(n, x.from, x.to)
		if err != x.err || err != api.OK && !loopnest.Same(got, api.Nest{}) {
			t.Errorf("Apply(%q, %s, %s) = %v", x.s, x.from, x.to, err)
		}
		if err != api.OK {
			continue
		}
		want := strings.NewReplacer(x.from+"[", x.to+"[", "d[", "d[").Replace(x.s)
		if m := parse(t, bufs+want); !slices.EqualFunc(got.Body, m.Body, func(a, b api.Stmt) bool {
			return loopnest.Same(api.Nest{Body: []api.Stmt{a}}, api.Nest{Body: []api.Stmt{b}})
		}) || len(got.Bufs) != len(n.Bufs)-1 {
			t.Errorf("Apply(%q): %s", x.s, loopnest.Format(got))
		}
		one, _, e1 := interp.Run(n, memory(n), 999)
		two, _, e2 := interp.Run(got, memory(got), 999)
		a, b := interp.Outputs(n, one), interp.Outputs(got, two)
		if e1 != e2 || e1 == api.OK && !tensor.Same(a[0].Tensor, b[0].Tensor) {
			t.Errorf("%q: %v and %v", x.s, e1, e2)
		}
	}
}

func TestCandidates(t *testing.T) {
	n := parse(t, bufs+chain+"; s[] = a[0]; r[] = s[]; c[0] = r[]")
	got := alias.Candidates(n)
	var want [][2]string
	for _, a := range n.Bufs {
		for _, b := range n.Bufs {
			if alias.Check(n, a.Name, b.Name) == api.OK {
				want = append(want, [2]string{a.Name, b.Name})
			}
		}
	}
	if !slices.Equal(got, want) || !slices.Equal(got, [][2]string{{"e", "d"}, {"r", "s"}}) {
		t.Error(got, want)
	}
	for _, s := range []string{"c[q] = a[0]", "if a[0] < a[1] { }"} {
		if got := alias.Candidates(parse(t, bufs+s)); len(got) != 0 {
			t.Errorf("Candidates(%q) = %v", s, got)
		}
	}
}
