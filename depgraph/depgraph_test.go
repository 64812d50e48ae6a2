package depgraph_test

import (
	"slices"
	"testing"

	"brocade/api"
	"brocade/depgraph"
	"brocade/eval"
	"brocade/parser"
	"brocade/program"
	"brocade/tensor"
)

func parse(t *testing.T, s string) api.Prog {
	t.Helper()
	p, at, err := parser.Prog(s)
	if err != api.OK {
		t.Fatalf("%q: %d, %v", s, at, err)
	}
	return p
}

const (
	small = "in a: int[]; def b: int[] = a[]; def c: int[] = b[]; def d: int[] = a[]; out c;"
	// odd is invalid: names occur twice, definitions read themselves and unknown names.
	odd = "in a: int[]; in a: int[]; in e: int[]; def b: int[] = c[z[]] + b[]; def a: int[] = e[]; def c: int[] = a[] * q[]; def b: int[] = a[]; def f: int[] = b[] + f[]; out f, q;"
)

func same(t *testing.T, what string, got, want []string) {
	t.Helper()
	if !slices.Equal(got, want) {
		t.Errorf("%s = %v; want %v", what, got, want)
	}
}

func TestInputs(t *testing.T) {
	p, o := parse(t, small), parse(t, odd)
	same(t, "Inputs(c)", depgraph.Inputs(p, "c"), []string{"b"})
	same(t, "Inputs(a)", depgraph.Inputs(p, "a"), nil)
	same(t, "Inputs(q)", depgraph.Inputs(p, "q"), nil)
	same(t, "Inputs(b)", depgraph.Inputs(o, "b"), []string{"b", "c", "z"})
	same(t, "Inputs(a)", depgraph.Inputs(o, "a"), []string{"e"})
	same(t, "Consumers(a)", depgraph.Consumers(p, "a"), []string{"b", "d"})
	same(t, "Consumers(c)", depgraph.Consumers(p, "c"), nil)
	same(t, "Consumers(b)", depgraph.Consumers(o, "b"), []string{"b", "f"})
	same(t, "Consumers(a)", depgraph.Consumers(o, "a"), []string{"c", "b"})
	same(t, "Consumers(z)", depgraph.Consumers(o, "z"), []string{"b"})
}

func TestReachable(t *testing.T) {
	p, o := parse(t, small), parse(t, odd)
	for _, x := range []struct {
		p     api.Prog
		names []string
		want  []string
	}{{p, []string{"c"}, []string{"a", "b", "c"}}, {p, nil, nil}, {p, []string{"q"}, nil}, {p, []string{"d", "q", "d"}, []string{"a", "d"}}, {p, []string{"a"}, []string{"a"}}, {p, []string{"d", "c"}, []string{"a", "b", "c", "d"}}, {o, []string{"b"}, []string{"a", "e", "b", "c"}}, {o, []string{"f"}, []string{"a", "e", "b", "c", "f"}}, {o, []string{"e"}, []string{"e"}}, {o, []string{"a"}, []string{"a", "e"}}} {
		same(t, "Reachable", depgraph.Reachable(x.p, x.names...), x.want)
	}
	for _, x := range []struct {
		p        api.Prog
		from, to string
		want     []string
	}{{p, "a", "c", []string{"a", "b", "c"}}, {p, "b", "c", []string{"b", "c"}}, {p, "c", "c", []string{"c"}}, {p, "d", "c", nil}, {p, "c", "a", nil}, {p, "q", "c", nil}, {p, "a", "q", nil}, {o, "e", "f", []string{"a", "e", "b", "c", "f"}}, {o, "c", "f", []string{"b", "c", "f"}}, {o, "f", "f", []string{"f"}}} {
		same(t, "Between "+x.from+" and "+x.to, depgraph.Between(x.p, x.from, x.to), x.want)
		if found := slices.Contains(depgraph.Reachable(x.p, x.to), x.from); found != (len(x.want) > 0) {
			t.Errorf("%s is reachable from %s: %v", x.from, x.to, found)
		}
	}
}

func TestLevels(t *testing.T) {
	for _, x := range []struct {
		s    string
		want [][]string
	}{{small, [][]string{{"b", "d"}, {"c"}}}, {"", nil}, {odd, [][]string{{"b", "a"}, {"c", "b"}, {"f"}}}, {"def a: int[] = int(1); def b: int[] = a[]; def c: int[] = b[] + a[]; def d: int[] = a[]; def e: int[] = c[] + d[]; def f: int[] = g[]; def g: int[] = f[];", [][]string{{"a", "f"}, {"b", "d", "g"}, {"c"}, {"e"}}}, {"def x: int[] = int(1); def y: int[] = x[]; def x: int[] = y[]; def x: int[] = int(1); def z: int[] = x[];", [][]string{{"x", "x"}, {"y"}, {"x"}, {"z"}}}} {
		if got := depgraph.Levels(parse(t, x.s)); !slices.EqualFunc(got, x.want, slices.Equal) {
			t.Errorf("Levels(%q) = %v", x.s, got)
		}
	}
}

func names(p api.Prog) []string {
	var l []string
	for _, d := range p.Defs {
		l = append(l, d.Name)
	}
	return l
}

func TestRemoveDead(t *testing.T) {
	for _, x := range []struct {
		s    string
		want []string
	}{{small, []string{"b", "c"}}, {odd, []string{"b", "a", "c", "b", "f"}}, {"def a: int[] = int(1);", nil}, {"in a: int[]; def b: int[] = a[]; out a;", nil}} {
		p := parse(t, x.s)
		got := depgraph.RemoveDead(p)
		same(t, "RemoveDead", names(got), x.want)
		if again := depgraph.RemoveDead(got); !program.Same(again, got) {
			t.Errorf("%q: RemoveDead is not idempotent", x.s)
		}
		got.Defs = p.Defs
		if !program.Same(got, p) || !program.Same(p, parse(t, x.s)) {
			t.Errorf("%q: something else has changed", x.s)
		}
	}
	p := parse(t, "size n; in a: frac[n]; def b: frac[i < n] = a[i] + a[i]; def c: frac[] = frac(1) / a[0]; def d: frac[i < n] = b[i] * b[i]; out d, b;")
	ins := []api.Named{{Name: "a", Tensor: api.Tensor{Type: api.Type{Kind: api.KFrac}, Dims: []int{2}, Vals: []api.Val{{N: 1, D: 2}, {N: 3, D: 1}}}}}
	sizes := []api.Binding{{Name: "n", Val: 2}}
	live := depgraph.RemoveDead(p)
	if _, err := program.Validate(live); err != api.OK || len(live.Defs) != 2 {
		t.Error(err)
	}
	one, _ := eval.Run(p, sizes, ins)
	two, err := eval.Run(live, sizes, ins)
	if err != api.OK || len(one) != 2 || !slices.EqualFunc(one, two, func(a, b api.Named) bool { return a.Name == b.Name && tensor.Same(a.Tensor, b.Tensor) }) {
		t.Error(one, two, err)
	}
}

func TestTopoSort(t *testing.T) {
	for _, x := range []struct {
		s    string
		want []string
		err  api.Errno
	}{
		{small, []string{"b", "c", "d"}, 0}, {"def c: int[] = b[] + d[]; def b: int[] = a[q[]]; def d: int[] = b[]; def a: int[] = int(1);", []string{"a", "b", "d", "c"}, 0}, {"def c: int[] = c[];", nil, api.ErrNotFound}, {"def a: int[] = b[]; def b: int[] = a[]; def c: int[] = int(1);", nil, api.ErrNotFound},
		{"def y: int[] = x[]; def x: int[] = int(1); def x: int[] = int(2);", []string{"x", "x", "y"}, 0}, {"def x: int[] = y[]; def y: int[] = x[]; def x: int[] = int(2);", nil, api.ErrNotFound}, {odd, nil, api.ErrNotFound}, {"", nil, 0},
	} {
		p := parse(t, x.s)
		got, err := depgraph.TopoSort(p)
		same(t, "TopoSort", names(got), x.want)
		if err != x.err || !program.Same(p, parse(t, x.s)) {
			t.Errorf("%q: %v", x.s, err)
		}
		if again, err2 := depgraph.TopoSort(got); err2 != api.OK || !program.Same(again, got) {
			t.Errorf("%q: TopoSort again changes something", x.s)
		}
		if err == api.OK {
			got.Defs = p.Defs
			if !program.Same(got, p) {
				t.Errorf("%q: something else has changed", x.s)
			}
		} else if !program.Same(got, api.Prog{}) {
			t.Errorf("%q: a program beside an error", x.s)
		}
	}
	if p := parse(t, small); !program.Same(p, func() api.Prog { r, _ := depgraph.TopoSort(p); return r }()) {
		t.Error("a valid program is sorted already")
	}
}
