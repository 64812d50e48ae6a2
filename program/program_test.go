package program_test

import (
	"slices"
	"strconv"
	"strings"
	"testing"

	"brocade/api"
	"brocade/expr"
	"brocade/lin"
	"brocade/parser"
	"brocade/program"
)

func parse(t *testing.T, s string) api.Prog {
	t.Helper()
	p, at, err := parser.Prog(s)
	if err != api.OK {
		t.Fatalf("%q: %d, %v", s, at, err)
	}
	return p
}

func TestValidateText(t *testing.T) {
	for _, x := range []struct {
		s   string
		at  int
		err api.Errno
	}{
		{"size n; in a: frac[n]; def s: frac[] = sum i < n: a[i]; out s;", 0, 0}, {"", 0, 0}, {"size n; in a: frac[n]; in t: int[n, 2]; def b: frac[i < n] = a[t[i, 1]]; def c: frac[i < n] = scan: b[i]; def d: int[] = min i < n, j < 2*n: [i + j - n]; out c, a, d;", 0, 0}, {"size n; in i: frac[n]; def s: frac[i < n] = i[i]; out s;", 0, 0},
		{"size n, m, n;", 0, api.ErrDuplicate}, {"where 0 <= n; size n; where 0 == m;", 1, api.ErrNotFound},
		{"size n; in n: frac[];", 2, api.ErrDuplicate}, {"in a: frac[]; in a: int[];", 3, api.ErrDuplicate}, {"in a: frac[1, 1, 1, 1, 1, 1, m];", 2, api.ErrRank}, {"size n; in a: frac[n, m];", 2, api.ErrNotFound},
		{"size n; def n: int[] = int(1);", 2, api.ErrDuplicate}, {"in a: int[]; def a: int[] = int(1);", 3, api.ErrDuplicate}, {"def a: int[] = int(1); def a: int[] = int(1);", 3, api.ErrDuplicate}, {"def a: int[i < 1, j < 1, k < 1, l < 1, m < 1, n < 1, i < 1] = int(1);", 2, api.ErrRank}, {"def a: int[] = sum i < 1, j < 1, k < 1, l < 1, m < 1, n < 1, i < 1: int(1);", 2, api.ErrRank},
		{"size n; def a: int[n < 1] = int(1);", 2, api.ErrDuplicate}, {"def a: int[i < 1, i < 1] = int(1);", 2, api.ErrDuplicate}, {"def a: int[i < 1] = sum i < 1: int(1);", 2, api.ErrDuplicate}, {"def a: int[i < m, i < 1] = int(1);", 2, api.ErrNotFound}, {"def a: int[i < 2, j < i] = int(1);", 2, api.ErrNotFound},
		{"def a: int[] = sum: int(1);", 2, api.ErrRank}, {"def a: int[] = max: [q];", 2, api.ErrRank}, {"def a: int[] = scan: int(1);", 2, api.ErrRank}, {"def a: int[j < 2] = scan i < 2: int(1);", 2, api.ErrRank},
		{"size n; in a: frac[n]; def s: frac[i < n] = a[i, i];", 3, api.ErrRank}, {"size n; in a: frac[n]; def s: frac[i < n] = b[i];", 3, api.ErrNotFound}, {"size n; in a: frac[n]; def s: frac[i < n] = a[j];", 3, api.ErrNotFound}, {"size n; in a: frac[n]; def s: frac[i < n] = a[i] + int(1);", 3, api.ErrType}, {"size n; in a: frac[n]; def s: int[i < n] = a[i];", 3, api.ErrType}, {"size n; in a: frac[n]; def n: frac[i < n] = a[i];", 3, api.ErrDuplicate}, {"def s: int[] = s[];", 2, api.ErrNotFound}, {"def s: int[] = u[]; def u: int[] = int(1);", 2, api.ErrNotFound}, {"def s: int[] = int(1); def u: int[] = s[]; out u, v;", 5, api.ErrNotFound}, {"def s: int[] = int(1); out s, s;", 4, api.ErrDuplicate}, {"size n; out n;", 2, api.ErrNotFound}, {"def s: fix(8, 4, even, sat)[] = fix(8, 4, even, wrap)(1);", 2, api.ErrType},
		{"in a: int[]; def s: int[i < 1] = sum j < 1: [i]; out q;", 4, api.ErrNotFound}, {"def s: int[i < 1] = [i]; def u: int[] = [i];", 3, api.ErrNotFound},
	} {
		at, err := program.Validate(parse(t, x.s))
		if at != x.at || err != x.err {
			t.Errorf("%q: %d, %v; want %d, %v", x.s, at, err, x.at, x.err)
		}
	}
}

// TestValidateFields changes one field of a valid program at a time.
func TestValidateFields(t *testing.T) {
	text := "size n, m; where 0 <= n - 1; in a: frac[n]; in t: int[n, m]; def s: frac[i < n] = sum j < m: a[t[i, j]]; def u: frac[i < n] = scan: s[i]; out u, s;"
	bad := api.Lin{L: []api.Mono{{Name: "n"}}}
	for k, x := range []struct {
		change func(p *api.Prog)
		at     int
		err    api.Errno
	}{
		{func(p *api.Prog) {}, 0, 0},
		{func(p *api.Prog) { p.Sizes[0] = "N"; p.Sizes[1] = "N" }, 0, api.ErrName}, {func(p *api.Prog) { p.Sizes[1] = "sum" }, 0, api.ErrName}, {func(p *api.Prog) { p.Sizes = make([]string, 65) }, 0, api.ErrLimit}, {func(p *api.Prog) { p.Params = make([]api.Param, 65) }, 0, api.ErrLimit}, {func(p *api.Prog) { p.Defs = make([]api.Def, 65) }, 0, api.ErrLimit}, {func(p *api.Prog) { p.Outs = make([]string, 65); p.Sizes[0] = "" }, 0, api.ErrLimit}, {func(p *api.Prog) { p.Where = make([]api.Constraint, 257) }, 0, api.ErrLimit}, {func(p *api.Prog) { p.Where = make([]api.Constraint, 256) }, 0, 0},
		{func(p *api.Prog) { p.Where[0].Lin = bad }, 1, api.ErrArg}, {func(p *api.Prog) { p.Where[0].Lin = lin.Var("q"); p.Params[0].Name = "" }, 1, api.ErrNotFound}, {func(p *api.Prog) {
			p.Where = append(p.Where, api.Constraint{Lin: bad})
			p.Where[0].Lin = lin.Var("a")
		}, 1, api.ErrNotFound},
		{func(p *api.Prog) { p.Params[0].Name = ""; p.Params[0].Type.Kind = 0 }, 2, api.ErrName}, {func(p *api.Prog) { p.Params[1].Name = "a"; p.Params[1].Type.Kind = 0 }, 3, api.ErrDuplicate}, {func(p *api.Prog) { p.Params[1].Type.Kind = 9; p.Params[1].Dims = make([]api.Lin, 7) }, 3, api.ErrType}, {func(p *api.Prog) { p.Params[1].Dims = []api.Lin{bad, bad, bad, bad, bad, bad, bad} }, 3, api.ErrRank}, {func(p *api.Prog) { p.Params[1].Dims = []api.Lin{lin.Const(1), bad, lin.Var("q")} }, 3, api.ErrArg}, {func(p *api.Prog) { p.Params[1].Dims = []api.Lin{lin.Var("q"), bad} }, 3, api.ErrNotFound}, {func(p *api.Prog) { p.Params[1].Dims[0] = lin.Const(-5) }, 0, 0},
		{func(p *api.Prog) { p.Defs[0].Name = "if" }, 4, api.ErrName}, {func(p *api.Prog) { p.Defs[0].Name = "m"; p.Defs[0].Type.Bits = 1 }, 4, api.ErrDuplicate}, {func(p *api.Prog) { p.Defs[1].Type.Bits = 1; p.Defs[1].Dims = make([]api.Axis, 7) }, 5, api.ErrType}, {func(p *api.Prog) { p.Defs[0].Dims[0].Name = ""; p.Defs[0].Dims[0].Size = bad }, 4, api.ErrName}, {func(p *api.Prog) { p.Defs[0].Red[0].Name = "i"; p.Defs[0].Red[0].Size = bad }, 4, api.ErrDuplicate}, {func(p *api.Prog) { p.Defs[0].Red[0].Size = bad; p.Defs[0].Fold = 9 }, 4, api.ErrArg}, {func(p *api.Prog) { p.Defs[0].Dims[0].Size = lin.Var("j"); p.Defs[0].Fold = 9 }, 4, api.ErrNotFound},
		{func(p *api.Prog) { p.Defs[0].Fold = 6; p.Defs[0].Red = nil }, 4, api.ErrArg}, {func(p *api.Prog) { p.Defs[0].Fold = -1 }, 4, api.ErrArg}, {func(p *api.Prog) { p.Defs[0].Fold = api.FNone }, 4, api.ErrRank}, {func(p *api.Prog) { p.Defs[0].Fold = api.FScan; p.Defs[0].Body = api.Expr{} }, 4, api.ErrRank}, {func(p *api.Prog) { p.Defs[0].Body = api.Expr{} }, 4, api.ErrSyntax}, {func(p *api.Prog) { p.Defs[0].Body.Idx[0].From = "a" }, 4, api.ErrType}, {func(p *api.Prog) { p.Defs[0].Body.Idx[0].From = "q" }, 4, api.ErrNotFound}, {func(p *api.Prog) { p.Defs[0].Body.Idx[0].At = p.Defs[0].Body.Idx[0].At[:1] }, 4, api.ErrRank}, {func(p *api.Prog) { p.Defs[0].Body.Idx[0].At[1] = lin.Var("q") }, 4, api.ErrNotFound}, {func(p *api.Prog) { p.Outs[1] = "" }, 7, api.ErrNotFound},
	} {
		p := parse(t, text)
		x.change(&p)
		if at, err := program.Validate(p); at != x.at || err != x.err {
			t.Errorf("change %d: %d, %v; want %d, %v", k, at, err, x.at, x.err)
		}
	}
	p := parse(t, text)
	for len(p.Defs) > 0 {
		p.Outs, p.Defs = nil, p.Defs[:len(p.Defs)-1]
		if at, err := program.Validate(p); err != api.OK {
			t.Errorf("without the last definitions: %d, %v", at, err)
		}
	}
}

func TestLimits(t *testing.T) {
	var b strings.Builder
	for k := range 64 {
		n := strconv.Itoa(k)
		b.WriteString("size s" + n + "; in p" + n + ": int[]; def d" + n + ": int[] = p" + n + "[]; out d" + n + ";")
	}
	if at, err := program.Validate(parse(t, b.String())); at != 0 || err != api.OK {
		t.Error(at, err)
	}
	if at, err := program.Validate(parse(t, b.String()+"out p0;")); at != 0 || err != api.ErrLimit {
		t.Error(at, err)
	}
	six := "1, 1, 1, 1, 1, 1"
	for text, want := range map[string]api.Errno{"in a: frac[" + six + "];": api.OK, "in a: frac[" + six + ", 1];": api.ErrRank, "def s: int[a < 1, b < 1, c < 1, d < 1, e < 1, f < 1] = int(1);": api.OK, "def s: int[] = sum a < 1, b < 1, c < 1, d < 1, e < 1, f < 1: int(1);": api.OK, "def s: int[] = sum a < 1, b < 1, c < 1, d < 1, e < 1, f < 1, g < 1: int(1);": api.ErrRank, "def s: int[a < 1, b < 1, c < 1, d < 1, e < 1, f < 1, g < 1] = int(1);": api.ErrRank} {
		if _, err := program.Validate(parse(t, text)); err != want {
			t.Errorf("%q: %v", text, err)
		}
	}
}

func TestTypeOf(t *testing.T) {
	p := parse(t, "size n; in a: frac[n]; in t: int[n]; in f: fix(8, 4, even, sat)[]; def s: frac[i < n, j < n] = a[i];")
	frac, kint, fix := api.Type{Kind: api.KFrac}, api.Type{Kind: api.KInt}, p.Params[2].Type
	for _, x := range []struct {
		s    string
		want api.Type
		err  api.Errno
	}{
		{"a[i]", frac, 0}, {"a[n - 1]", frac, 0}, {"[i + n]", kint, 0}, {"t[i] + [i]", kint, 0}, {"-f[]", fix, 0}, {"cast(int, a[0])", kint, 0}, {"cast(int, a[0]) * int(2)", kint, 0}, {"if(a[0] < a[1], f[], f[])", fix, 0}, {"min(a[i], s[i, 0])", frac, 0}, {"a[t[i]]", frac, 0}, {"if(!([i] == t[0]) & (a[0] <= a[1] | f[] < f[]), a[0], a[1])", frac, 0},
		{"[q]", api.Type{}, api.ErrNotFound}, {"a[q]", api.Type{}, api.ErrNotFound}, {"a[a]", api.Type{}, api.ErrNotFound}, {"q[i]", api.Type{}, api.ErrNotFound}, {"a[i, i]", api.Type{}, api.ErrRank}, {"a[]", api.Type{}, api.ErrRank}, {"s[i]", api.Type{}, api.ErrRank}, {"a[t[q]]", api.Type{}, api.ErrNotFound}, {"a[t[]]", api.Type{}, api.ErrRank}, {"a[a[i]]", api.Type{}, api.ErrType}, {"a[q[i]]", api.Type{}, api.ErrNotFound}, {"a[a[]]", api.Type{}, api.ErrType}, {"s[q, t[]]", api.Type{}, api.ErrNotFound}, {"s[t[], q]", api.Type{}, api.ErrRank},
		{"a[0] + t[0]", api.Type{}, api.ErrType}, {"min(a[0], f[])", api.Type{}, api.ErrType}, {"if(a[0] < a[1], a[0], t[0])", api.Type{}, api.ErrType}, {"if(a[0] < t[0], a[0], a[0])", api.Type{}, api.ErrType}, {"a[0] < a[1]", api.Type{}, api.ErrType}, {"a[q] + t[0]", api.Type{}, api.ErrNotFound}, {"(a[0] + t[0]) * a[q]", api.Type{}, api.ErrType}, {"a[q] < a[0]", api.Type{}, api.ErrType}, {"if(a[0] == t[0], a[q], a[0])", api.Type{}, api.ErrType}, {"cast(int, a[0] + t[0])", api.Type{}, api.ErrType}, {"if(!(a[0] < a[q]), a[0], a[0])", api.Type{}, api.ErrNotFound}, {"a[0] / t[0]", api.Type{}, api.ErrType}, {"a[0] - [i]", api.Type{}, api.ErrType}, {"max(f[], [i])", api.Type{}, api.ErrType}, {"-(a[0] * [i])", api.Type{}, api.ErrType},
	} {
		e, _, err := parser.Expr(x.s)
		if err != api.OK {
			t.Fatalf("%q: %v", x.s, err)
		}
		if got, err := program.TypeOf(p, []string{"i", "j"}, e); got != x.want || err != x.err {
			t.Errorf("TypeOf(%q) = %v, %v", x.s, got, err)
		}
	}
	if _, err := program.TypeOf(p, nil, api.Expr{Op: api.CLt}); err != api.ErrRank {
		t.Error("expr.Validate comes first", err)
	}
	// The first parameter, or else the first definition, of a name counts, valid or not.
	q := api.Prog{Params: []api.Param{{Name: "x", Type: kint}, {Name: "x", Type: frac}}, Defs: []api.Def{{Name: "x", Type: fix}, {Name: "Y", Type: fix}, {Name: "y", Type: frac}, {Name: "y", Type: kint}}}
	for name, want := range map[string]api.Type{"x": kint, "y": frac} {
		if got, err := program.TypeOf(q, nil, api.Expr{Op: api.ERead, Name: name}); got != want || err != api.OK {
			t.Errorf("%s: %v, %v", name, got, err)
		}
	}
}

func TestQueries(t *testing.T) {
	p := parse(t, "size n; in a: frac[n, 2]; in b: int[]; def c: int[i < n, j < 3*n] = sum k < 2, l < n: b[]; def a: int[i < n] = b[]; def c: frac[] = a[0, 0];")
	for _, x := range []struct {
		name string
		kind int
		dims []api.Lin
		ok   bool
		at   int
	}{{"a", api.KFrac, []api.Lin{lin.Var("n"), lin.Const(2)}, true, 1}, {"b", api.KInt, nil, true, -1}, {"c", api.KInt, []api.Lin{lin.Var("n"), {L: []api.Mono{{Name: "n", By: 3}}}}, true, 0}, {"n", 0, nil, false, -1}, {"", 0, nil, false, -1}, {"i", 0, nil, false, -1}} {
		typ, dims, ok := program.Find(p, x.name)
		if typ.Kind != x.kind || ok != x.ok || !slices.EqualFunc(dims, x.dims, lin.Same) {
			t.Errorf("Find(%q) = %v, %v, %v", x.name, typ, dims, ok)
		}
		if at := program.IndexOf(p, x.name); at != x.at {
			t.Errorf("IndexOf(%q) = %d", x.name, at)
		}
	}
	if got := program.IndexNames(p.Defs[0]); !slices.Equal(got, []string{"i", "j", "k", "l"}) {
		t.Error(got)
	}
	if len(program.IndexNames(api.Def{})) != 0 {
		t.Error("no axes")
	}
	_, dims, _ := program.Find(p, "c")
	dims[0].L[0].By = 77
	if p.Defs[0].Dims[0].Size.L[0].By != 1 {
		t.Error("Find shares memory")
	}
}

func TestSameAndCopy(t *testing.T) {
	text := "size n, m; where 0 <= n - 1; in a: frac[n]; in t: int[n, m]; def s: frac[i < n] = sum j < m: a[t[i, j]] * a[0]; out s, a;"
	p := parse(t, text)
	for k, change := range []func(p *api.Prog){
		func(p *api.Prog) { p.Sizes[1] = "q" }, func(p *api.Prog) { p.Sizes = p.Sizes[:1] }, func(p *api.Prog) { p.Where[0].Eq = true }, func(p *api.Prog) { p.Where[0].Lin.L[0].By = 2 }, func(p *api.Prog) { p.Where = nil },
		func(p *api.Prog) { p.Params[0].Name = "b" }, func(p *api.Prog) { p.Params[0].Type.Bits = 2 }, func(p *api.Prog) { p.Params[1].Dims[1].K++ }, func(p *api.Prog) { p.Params[1].Dims = p.Params[1].Dims[:1] }, func(p *api.Prog) { p.Params = p.Params[:1] },
		func(p *api.Prog) { p.Defs[0].Name = "x" }, func(p *api.Prog) { p.Defs[0].Type.Over = 1 }, func(p *api.Prog) { p.Defs[0].Dims[0].Name = "x" }, func(p *api.Prog) { p.Defs[0].Dims[0].Size.L[0].Name = "x" }, func(p *api.Prog) { p.Defs[0].Red[0].Name = "x" }, func(p *api.Prog) { p.Defs[0].Red[0].Size.K = 4 }, func(p *api.Prog) { p.Defs[0].Red = nil }, func(p *api.Prog) { p.Defs[0].Fold = api.FMax },
		func(p *api.Prog) { p.Defs[0].Body.Args[0].Idx[0].At[1].L[0].By = 5 }, func(p *api.Prog) { p.Defs[0].Body.Args[1].Name = "t" }, func(p *api.Prog) { p.Defs = nil }, func(p *api.Prog) { p.Outs[1] = "t" }, func(p *api.Prog) { p.Outs = p.Outs[:1] },
	} {
		c := program.Copy(p)
		if !program.Same(p, c) {
			t.Fatal("a copy must be the same")
		}
		change(&c)
		if program.Same(p, c) || program.Same(c, p) || !program.Same(p, parse(t, text)) {
			t.Errorf("change %d: a difference is not seen, or memory is shared", k)
		}
	}
	if !program.Same(api.Prog{}, api.Prog{Sizes: []string{}, Outs: []string{}, Defs: []api.Def{}}) {
		t.Error("nil and empty lists are equal")
	}
}

func TestTypesOfBodies(t *testing.T) {
	p := parse(t, "size n; in a: frac[n]; def b: int[i < n] = cast(int, a[i]); def c: int[] = max k < n: b[k] * [k];")
	for _, d := range p.Defs {
		if got, err := program.TypeOf(p, program.IndexNames(d), d.Body); got != d.Type || err != api.OK {
			t.Errorf("%s: %v, %v", d.Name, got, err)
		}
		for _, name := range expr.Reads(d.Body) {
			if at := program.IndexOf(p, name); at >= program.IndexOf(p, d.Name) {
				t.Errorf("%s reads %s", d.Name, name)
			}
		}
	}
}
