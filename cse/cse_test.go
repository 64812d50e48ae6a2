package cse_test

import (
	"slices"
	"testing"

	"brocade/api"
	"brocade/cse"
	"brocade/eval"
	"brocade/parser"
	"brocade/printer"
	"brocade/program"
	"brocade/tensor"
)

func parse(t *testing.T, s string) api.Prog {
	t.Helper()
	p, at, err := parser.Prog(s)
	if err != api.OK {
		t.Fatalf("%q: %d, %v", s, at, err)
	}
	if at, err := program.Validate(p); err != api.OK {
		t.Fatalf("%q: %d, %v", s, at, err)
	}
	return p
}

const head = "size n, m; in a: frac[n]; in c: frac[n]; in t: int[n]; "

func defs(p api.Prog) []string {
	var l []string
	for _, d := range p.Defs {
		l = append(l, printer.Def(d))
	}
	return l
}

func TestCandidates(t *testing.T) {
	for _, x := range []struct {
		s    string
		want []cse.Candidate
		text []string
	}{
		{"def b: frac[i < n] = (a[i] + c[i]) * (a[i] + c[i]);", []cse.Candidate{{Count: 2}}, []string{"a[i] + c[i]"}},
		{"def b: frac[i < n] = a[i] + a[i] + c[i];", nil, nil}, {"def b: frac[i < n] = if(a[i] * c[i] < -a[i], a[i] * c[i], -a[i]);", nil, nil}, {"def b: frac[i < n] = if(a[i] * c[i] < -a[i], frac(1), frac(2)); def d: frac[i < n] = -a[i] + a[i] * c[i];", []cse.Candidate{{Count: 2}, {Count: 2}}, []string{"a[i] * c[i]", "-a[i]"}},
		{"def b: frac[i < n] = -a[i]; def d: frac[j < n] = -a[j]; def e: frac[i < m] = -a[i]; def f: frac[k < 2, i < n] = -a[i]; def g: frac[] = sum i < n: -a[i];", []cse.Candidate{{Count: 3}}, []string{"-a[i]"}},
		{"def b: frac[i < n] = -(-a[i] + c[0] * c[1]) + (-a[i] + c[0] * c[1]) * cast(frac, int(1) + int(2)); def d: frac[] = c[0] * c[1] + cast(frac, int(1) + int(2));", []cse.Candidate{{Count: 2}, {Count: 2}, {Count: 3}, {Count: 2}, {Count: 2}}, []string{"-a[i] + c[0] * c[1]", "-a[i]", "c[0] * c[1]", "cast(frac, int(1) + int(2))", "int(1) + int(2)"}},
		{"def b: int[i < n, j < n, k < n, l < n, o < n, q < n] = sum r < n: -[i + j + k + l + o + q + r] * -[i + j + k + l + o + q + r]; def d: int[] = -t[n - 1] - -t[n - 1];", []cse.Candidate{{Count: 2}}, []string{"-t[n - 1]"}},
	} {
		got := cse.Candidates(parse(t, head+x.s))
		ok := len(got) == len(x.want)
		for i := range got {
			ok = ok && got[i].Count == x.want[i].Count && printer.Expr(got[i].Expr) == x.text[i]
		}
		if !ok {
			t.Errorf("%q: %v", x.s, got)
		}
	}
	if cse.Candidates(api.Prog{Outs: []string{"q"}}) != nil || cse.Duplicates(api.Prog{Outs: []string{"q"}}) != nil {
		t.Error("an invalid program has none")
	}
}

func TestExtract(t *testing.T) {
	for _, x := range []struct {
		s     string
		most  int
		want  []string
		steps int
	}{
		{"def b: frac[i < n] = (a[i] + c[i]) * (a[i] - c[i]) + (a[i] - c[i]) * (a[i] + c[i]); out b;", 1, []string{"def t0: frac[i < n] = a[i] + c[i];", "def b: frac[i < n] = t0[i] * (a[i] - c[i]) + (a[i] - c[i]) * t0[i];"}, 1}, {"size t0; in t1: int[]; def b: frac[t2 < n] = -a[t2] * -a[t2];", 9, []string{"def t3: frac[t2 < n] = -a[t2];", "def b: frac[t2 < n] = t3[t2] * t3[t2];"}, 1}, {"def b: int[g < n, h < n, i < n, j < n, k < n, l < n] = -[g + h + i + j + k + l] * -[g + h + i + j + k + l];", 9, []string{"def t0: int[g < n, h < n, i < n, j < n, k < n, l < n] = -[g + h + i + j + k + l];", "def b: int[g < n, h < n, i < n, j < n, k < n, l < n] = t0[g, h, i, j, k, l] * t0[g, h, i, j, k, l];"}, 1}, {"def b: int[g < n, h < n, i < n, j < n, k < n, l < n] = sum o < n: -[g + h + i + j + k + l + o] * -[g + h + i + j + k + l + o];", 9, []string{"def b: int[g < n, h < n, i < n, j < n, k < n, l < n] = sum o < n: -[g + h + i + j + k + l + o] * -[g + h + i + j + k + l + o];"}, 0}, {"def b: frac[i < n] = (a[i] + c[i]) * (a[i] + c[i]); out b;", 9, []string{"def t0: frac[i < n] = a[i] + c[i];", "def b: frac[i < n] = t0[i] * t0[i];"}, 1}, {"def b: frac[i < n] = (a[i] + c[i]) * (a[i] + c[i]);", 0, []string{"def b: frac[i < n] = (a[i] + c[i]) * (a[i] + c[i]);"}, 0}, {"def b: frac[i < n] = (a[i] + c[i]) * (a[i] + c[i]);", -4, []string{"def b: frac[i < n] = (a[i] + c[i]) * (a[i] + c[i]);"}, 0},
		{"def x: frac[] = a[0]; def t0: frac[t1 < n] = -(-a[t1] * c[t1]) - (-a[t1] * c[t1]); def y: int[] = sum t1 < n: cast(int, -a[t1] * c[t1]) - cast(int, -a[t1]);", 1, []string{"def x: frac[] = a[0];", "def t2: frac[t1 < n] = -a[t1] * c[t1];", "def t0: frac[t1 < n] = -t2[t1] - t2[t1];", "def y: int[] = sum t1 < n: cast(int, t2[t1]) - cast(int, -a[t1]);"}, 1},
		{"def x: frac[] = a[0]; def t0: frac[t1 < n] = -(-a[t1] * c[t1]) - (-a[t1] * c[t1]); def y: int[] = sum t1 < n: cast(int, -a[t1] * c[t1]) - cast(int, -a[t1]);", 2, []string{"def x: frac[] = a[0];", "def t3: frac[t1 < n] = -a[t1];", "def t2: frac[t1 < n] = t3[t1] * c[t1];", "def t0: frac[t1 < n] = -t2[t1] - t2[t1];", "def y: int[] = sum t1 < n: cast(int, t2[t1]) - cast(int, t3[t1]);"}, 2},
		{"def b: frac[i < n] = if(-a[i] < c[i], -a[i], -c[0]) + -a[i] * -c[0];", 9, []string{"def t0: frac[i < n] = -a[i];", "def b: frac[i < n] = if(t0[i] < c[i], -a[i], -c[0]) + t0[i] * -c[0];"}, 1}, {"def b: int[i < n] = -t[0] - [i]; def d: int[j < n, i < n] = -t[0] * ([j] + [i]) - ([j] + [i]); def e: int[i < n, j < n] = [j] + [i];", 9, []string{"def t1: int[] = -t[0];", "def b: int[i < n] = t1[] - [i];", "def t0: int[j < n, i < n] = [j] + [i];", "def d: int[j < n, i < n] = t1[] * t0[j, i] - t0[j, i];", "def e: int[i < n, j < n] = [j] + [i];"}, 2},
	} {
		p := parse(t, head+x.s)
		got, steps := cse.Extract(p, x.most)
		if !slices.Equal(defs(got), x.want) || steps != x.steps {
			t.Errorf("Extract(%q, %d) = %v, %d", x.s, x.most, defs(got), steps)
		}
		if at, err := program.Validate(got); err != api.OK {
			t.Errorf("%q: %d, %v", x.s, at, err)
		}
	}
	p := parse(t, head+"def b: frac[i < n] = -a[i] * -a[i];")
	for len(p.Defs) < api.MaxDefs {
		d := p.Defs[0]
		d.Name = "z" + string(rune('a'+len(p.Defs)/10)) + string(rune('0'+len(p.Defs)%10))
		d.Body = d.Body.Args[0].Args[0]
		p.Defs = append(p.Defs, d)
	}
	if _, steps := cse.Extract(p, 9); steps != 0 {
		t.Error("the program is full")
	}
	if _, steps := cse.Extract(api.Prog{Defs: p.Defs[:63], Sizes: p.Sizes, Params: p.Params}, 9); steps != 1 {
		t.Error("there is room for one definition")
	}
	p.Outs = []string{"q"}
	if got, steps := cse.Extract(p, 9); !program.Same(got, p) || steps != 0 {
		t.Error("an invalid program")
	}
}

func TestMerge(t *testing.T) {
	for _, x := range []struct {
		s     string
		dup   [][2]string
		want  []string
		count int
	}{
		{"def u: frac[i < n] = -a[i]; def v: frac[j < n] = -a[j]; def w: frac[i < n] = v[i]; out w;", [][2]string{{"u", "v"}}, []string{"def u: frac[i < n] = -a[i];", "def w: frac[i < n] = u[i];"}, 1}, {"def u: frac[i < n] = -a[i]; def v: frac[j < n] = -a[j]; out v;", [][2]string{{"u", "v"}}, []string{"def u: frac[i < n] = -a[i];", "def v: frac[j < n] = -a[j];"}, 0},
		{"def u: int[i < n] = t[i]; def v: int[i < n] = t[i]; def w: frac[k < n] = a[u[k]]; def x: frac[k < n] = a[v[k]]; def y: frac[] = w[0] + x[0];", [][2]string{{"u", "v"}}, []string{"def u: int[i < n] = t[i];", "def w: frac[k < n] = a[u[k]];", "def y: frac[] = w[0] + w[0];"}, 2},
		{"def u: int[i < n, j < 2] = [i + 2*j]; def v: int[j < n, i < 2] = [2*i + j]; def w: int[j < n, i < 2] = [i + 2*j]; def x: int[i < n, j < 3] = [i + 2*j];", [][2]string{{"u", "v"}}, []string{"def u: int[i < n, j < 2] = [i + 2*j];", "def w: int[j < n, i < 2] = [i + 2*j];", "def x: int[i < n, j < 3] = [i + 2*j];"}, 1},
		{"def u: frac[] = sum i < n: a[i]; def v: frac[] = max i < n: a[i]; def w: frac[i < n] = a[i]; def x: frac[i < n] = scan: a[i]; def y: frac[] = sum k < n: a[k]; def z: frac[] = sum q < n: a[q]; out z;", [][2]string{{"u", "y"}, {"u", "z"}}, []string{"def u: frac[] = sum i < n: a[i];", "def v: frac[] = max i < n: a[i];", "def w: frac[i < n] = a[i];", "def x: frac[i < n] = scan: a[i];", "def z: frac[] = sum q < n: a[q];"}, 1},
		{"def u: frac[i < n] = a[i]; def v: frac[i < n] = a[n - 1 - i]; def w: frac[i < n, j < n] = a[i]; def x: frac[i < n, j < n] = a[j];", nil, []string{"def u: frac[i < n] = a[i];", "def v: frac[i < n] = a[-i + n - 1];", "def w: frac[i < n, j < n] = a[i];", "def x: frac[i < n, j < n] = a[j];"}, 0},
	} {
		p := parse(t, head+x.s)
		if got := cse.Duplicates(p); !slices.Equal(got, x.dup) {
			t.Errorf("Duplicates(%q) = %v", x.s, got)
		}
		got, count := cse.Merge(p)
		if !slices.Equal(defs(got), x.want) || count != x.count {
			t.Errorf("Merge(%q) = %v, %d", x.s, defs(got), count)
		}
		if _, err := program.Validate(got); err != api.OK {
			t.Errorf("%q: %v", x.s, err)
		}
		for _, pair := range cse.Duplicates(got) {
			if !slices.Contains(got.Outs, pair[1]) {
				t.Errorf("%q: %v is left", x.s, pair)
			}
		}
	}
	if got, count := cse.Merge(api.Prog{Outs: []string{"q"}}); count != 0 || len(got.Outs) != 1 {
		t.Error("an invalid program")
	}
}

// TestMeaning holds P23.5.
func TestMeaning(t *testing.T) {
	p := parse(t, head+"def u: frac[i < n] = (a[i] + c[i]) * (a[i] + c[i]) - a[t[i]]; def v: frac[j < n] = (a[j] + c[j]) * (a[j] + c[j]) - a[t[j]]; def w: frac[i < n] = scan: v[i] * u[i] + (a[i] + c[i]); def x: frac[] = sum i < n, j < m: w[i] * cast(frac, [i + j]) + w[i] * cast(frac, [i + j]); out x, w;")
	vec := func(name string, kind int, l ...int64) api.Named {
		x := api.Tensor{Type: api.Type{Kind: kind}, Dims: []int{len(l)}}
		for _, n := range l {
			x.Vals = append(x.Vals, api.Val{N: n, D: 1})
		}
		return api.Named{Name: name, Tensor: x}
	}
	ins := []api.Named{vec("a", api.KFrac, 1, 2, 3), vec("c", api.KFrac, -1, 5, 7), vec("t", api.KInt, 2, 0, 9)}
	sizes := []api.Binding{{Name: "n", Val: 3}, {Name: "m", Val: 2}}
	want, err := eval.Run(p, sizes, ins)
	if err != api.OK {
		t.Fatal(err)
	}
	merged, many := cse.Merge(p)
	for most := range 6 {
		q, _ := cse.Extract(p, most)
		r, _ := cse.Extract(merged, most)
		for _, x := range []api.Prog{q, r} {
			got, err := eval.Run(x, sizes, ins)
			if err != api.OK || many != 1 || !slices.EqualFunc(got, want, func(a, b api.Named) bool { return a.Name == b.Name && tensor.Same(a.Tensor, b.Tensor) }) {
				t.Error(most, got, err)
			}
		}
	}
}
