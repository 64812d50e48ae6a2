package printer_test

import (
	"strings"
	"testing"

	"brocade/api"
	"brocade/lexer"
	"brocade/printer"
)

var (
	kint  = api.Type{Kind: api.KInt}
	kfrac = api.Type{Kind: api.KFrac}
	kfix  = api.Type{Kind: api.KFix, Bits: 8, Frac: 4, Round: api.REven, Over: api.OSat}
)

func form(k int64, l ...any) api.Lin {
	f := api.Lin{K: k}
	for i := 0; i < len(l); i += 2 {
		f.L = append(f.L, api.Mono{Name: l[i].(string), By: int64(l[i+1].(int))})
	}
	return f
}

var (
	i, j, k, n = form(0, "i", 1), form(0, "j", 1), form(0, "k", 1), form(0, "n", 1)
	bad        = form(0, "i", 0)
)

func at(f api.Lin) api.Index { return api.Index{Lin: f} }

func gather(from string, l ...api.Lin) api.Index { return api.Index{From: from, At: l} }

func val(t api.Type, n, d int64) api.Expr {
	return api.Expr{Op: api.EVal, Type: t, Val: api.Val{N: n, D: d}}
}

func idx(f api.Lin) api.Expr { return api.Expr{Op: api.EIdx, Lin: f} }

func read(name string, l ...api.Index) api.Expr {
	return api.Expr{Op: api.ERead, Name: name, Idx: l}
}

func op(o int, l ...api.Expr) api.Expr { return api.Expr{Op: o, Args: l} }

func cast(t api.Type, e api.Expr) api.Expr {
	return api.Expr{Op: api.ECast, Type: t, Args: []api.Expr{e}}
}

func TestType(t *testing.T) {
	for _, x := range []struct {
		t    api.Type
		want string
	}{
		{kfrac, "frac"}, {kint, "int"}, {kfix, "fix(8, 4, even, sat)"}, {api.Type{Kind: api.KFix, Bits: 31, Frac: 0, Round: api.RFloor, Over: api.OWrap}, "fix(31, 0, floor, wrap)"}, {api.Type{Kind: api.KFix, Bits: 2, Frac: 30, Round: api.RCeil, Over: api.OSat}, "fix(2, 30, ceil, sat)"}, {api.Type{Kind: api.KFix, Bits: 9, Frac: 3, Round: api.RTrunc, Over: api.OWrap}, "fix(9, 3, zero, wrap)"},
		{api.Type{}, ""}, {api.Type{Kind: api.KFix}, ""}, {api.Type{Kind: api.KInt, Bits: 1}, ""}, {api.Type{Kind: 7}, ""},
	} {
		if got := printer.Type(x.t); got != x.want {
			t.Errorf("Type(%v) = %q", x.t, got)
		}
	}
}

func TestIndex(t *testing.T) {
	for _, x := range []struct {
		x    api.Index
		want string
	}{
		{at(form(-1, "i", 2)), "2*i - 1"}, {api.Index{}, "0"}, {gather("t", i, form(3, "j", -1)), "t[i, -j + 3]"}, {gather("t"), "t[]"},
		{at(bad), ""}, {gather("t", i, bad), ""}, {api.Index{At: []api.Lin{i}}, ""}, {gather("sum", i), ""}, {gather("T"), ""}, {api.Index{From: "t", Lin: i}, ""}, {api.Index{From: "t", Lin: form(1)}, ""}, {api.Index{From: "t", Lin: bad}, ""},
	} {
		if got := printer.Index(x.x); got != x.want {
			t.Errorf("Index(%v) = %q", x.x, got)
		}
	}
}

func TestExpr(t *testing.T) {
	x, y, z := read("x"), read("y"), read("z")
	p, q := op(api.CLt, x, y), op(api.CEq, y, z)
	for _, c := range []struct {
		e    api.Expr
		want string
	}{
		{val(kint, 5, 1), "int(5)"}, {val(kint, -5, 1), "int(-5)"}, {val(kfrac, -1, 2), "frac(-1/2)"}, {val(kfix, 3, 1), "fix(8, 4, even, sat)(3/16)"}, {idx(form(-3, "i", 2)), "[2*i - 3]"}, {x, "x[]"}, {read("a", at(i), gather("t", i, j), at(k)), "a[i, t[i, j], k]"},
		{op(api.EMul, read("a", at(i)), op(api.EAdd, read("b"), read("c", at(form(-1, "j", 1))))), "a[i] * (b[] + c[j - 1])"},
		{op(api.ESub, op(api.ESub, x, y), z), "x[] - y[] - z[]"}, {op(api.ESub, x, op(api.ESub, y, z)), "x[] - (y[] - z[])"}, {op(api.EAdd, x, op(api.EMul, y, z)), "x[] + y[] * z[]"}, {op(api.EDiv, op(api.EMul, x, y), op(api.EMul, y, z)), "x[] * y[] / (y[] * z[])"}, {op(api.EMul, op(api.EAdd, x, y), z), "(x[] + y[]) * z[]"}, {op(api.EAdd, op(api.EAdd, x, y), op(api.EAdd, y, z)), "x[] + y[] + (y[] + z[])"},
		{op(api.ENeg, x), "-x[]"}, {op(api.ENeg, op(api.ENeg, x)), "--x[]"}, {op(api.ENeg, op(api.EMul, x, y)), "-(x[] * y[])"}, {op(api.EMul, op(api.ENeg, x), op(api.ENeg, y)), "-x[] * -y[]"}, {op(api.ESub, op(api.ENeg, x), val(kint, -1, 1)), "-x[] - int(-1)"},
		{p, "x[] < y[]"}, {op(api.CLe, op(api.EAdd, x, y), op(api.ENeg, z)), "x[] + y[] <= -z[]"}, {op(api.CNot, p), "!x[] < y[]"}, {op(api.CNot, op(api.CAnd, p, q)), "!(x[] < y[] & y[] == z[])"}, {op(api.CNot, op(api.CNot, p)), "!!x[] < y[]"}, {op(api.CAnd, op(api.CNot, p), op(api.CNot, q)), "!x[] < y[] & !y[] == z[]"},
		{op(api.COr, op(api.CAnd, p, q), p), "x[] < y[] & y[] == z[] | x[] < y[]"}, {op(api.CAnd, op(api.COr, p, q), p), "(x[] < y[] | y[] == z[]) & x[] < y[]"}, {op(api.CAnd, p, op(api.CAnd, q, p)), "x[] < y[] & (y[] == z[] & x[] < y[])"}, {op(api.COr, p, op(api.COr, q, p)), "x[] < y[] | (y[] == z[] | x[] < y[])"}, {op(api.COr, op(api.COr, q, p), p), "y[] == z[] | x[] < y[] | x[] < y[]"}, {op(api.COr, p, op(api.CAnd, q, p)), "x[] < y[] | y[] == z[] & x[] < y[]"},
		{op(api.EMin, x, op(api.EAdd, y, z)), "min(x[], y[] + z[])"}, {op(api.EMax, x, y), "max(x[], y[])"}, {op(api.EIf, op(api.COr, p, q), x, op(api.ENeg, y)), "if(x[] < y[] | y[] == z[], x[], -y[])"}, {cast(kfix, op(api.EAdd, x, y)), "cast(fix(8, 4, even, sat), x[] + y[])"}, {op(api.EMul, op(api.EMin, x, y), cast(kint, x)), "min(x[], y[]) * cast(int, x[])"},
		{api.Expr{}, ""}, {op(api.EAdd, x), ""}, {idx(bad), ""}, {op(api.EAdd, x, p), ""}, {read("Q"), ""}, {val(kint, 1, 2), ""},
	} {
		got := printer.Expr(c.e)
		if got != c.want {
			t.Errorf("Expr = %q; want %q", got, c.want)
		}
		// P15.7: balanced, and tokens with at most one blank between them.
		l, _, err := lexer.Tokenize(got)
		if err != api.OK || strings.Contains(got, "  ") || strings.Count(got, "(") != strings.Count(got, ")") || strings.Count(got, "[") != strings.Count(got, "]") {
			t.Errorf("%q, %v", got, l)
		}
	}
}

func TestDef(t *testing.T) {
	axes := []api.Axis{{Name: "i", Size: n}, {Name: "j", Size: form(1, "n", 2)}}
	body := read("a", at(i))
	for _, c := range []struct {
		d    api.Def
		want string
	}{
		{api.Def{Name: "s", Type: kfrac, Dims: axes[:1], Red: axes[1:], Fold: api.FSum, Body: body}, "def s: frac[i < n] = sum j < 2*n + 1: a[i];"}, {api.Def{Name: "s", Type: kint, Body: body}, "def s: int[] = a[i];"}, {api.Def{Name: "s", Type: kint, Dims: axes, Body: body}, "def s: int[i < n, j < 2*n + 1] = a[i];"},
		{api.Def{Name: "s", Type: kint, Red: axes, Fold: api.FProd, Body: body}, "def s: int[] = prod i < n, j < 2*n + 1: a[i];"}, {api.Def{Name: "s", Type: kint, Fold: api.FMin, Body: body}, "def s: int[] = min: a[i];"}, {api.Def{Name: "s", Type: kint, Red: axes[:1], Fold: api.FMax, Body: op(api.EMax, body, body)}, "def s: int[] = max i < n: max(a[i], a[i]);"}, {api.Def{Name: "s", Type: kint, Dims: axes[:1], Fold: api.FScan, Body: body}, "def s: int[i < n] = scan: a[i];"},
		{api.Def{Type: kint, Body: body}, ""}, {api.Def{Name: "sum", Type: kint, Body: body}, ""}, {api.Def{Name: "s", Body: body}, ""}, {api.Def{Name: "s", Type: kint, Dims: []api.Axis{{Name: "I", Size: n}}, Body: body}, ""}, {api.Def{Name: "s", Type: kint, Dims: []api.Axis{{Name: "i", Size: bad}}, Body: body}, ""}, {api.Def{Name: "s", Type: kint, Red: []api.Axis{{Name: "", Size: n}}, Fold: api.FSum, Body: body}, ""}, {api.Def{Name: "s", Type: kint, Red: []api.Axis{{Name: "i", Size: bad}}, Fold: api.FSum, Body: body}, ""},
		{api.Def{Name: "s", Type: kint, Fold: 6, Body: body}, ""}, {api.Def{Name: "s", Type: kint, Fold: -1, Body: body}, ""}, {api.Def{Name: "s", Type: kint, Red: axes, Body: body}, ""}, {api.Def{Name: "s", Type: kint, Red: axes[:1], Body: body}, ""}, {api.Def{Name: "s", Type: kint, Dims: axes[1:], Red: axes[:1], Fold: api.FScan, Body: body}, ""}, {api.Def{Name: "s", Type: kint, Dims: axes, Red: axes, Fold: api.FScan, Body: body}, ""}, {api.Def{Name: "s", Type: kint}, ""}, {api.Def{Name: "s", Type: kint, Body: op(api.EAdd, body)}, ""},
	} {
		if got := printer.Def(c.d); got != c.want {
			t.Errorf("Def = %q; want %q", got, c.want)
		}
	}
}

func TestProg(t *testing.T) {
	p := func() api.Prog {
		return api.Prog{
			Sizes: []string{"n", "m"}, Where: []api.Constraint{{Lin: form(-1, "n", 1)}, {Lin: form(0, "m", 1, "n", -1), Eq: true}},
			Params: []api.Param{{Name: "a", Type: kfrac, Dims: []api.Lin{n, form(2)}}, {Name: "b", Type: kint}},
			Defs:   []api.Def{{Name: "s", Type: kfrac, Red: []api.Axis{{Name: "i", Size: n}}, Fold: api.FSum, Body: read("a", at(i), at(form(0)))}}, Outs: []string{"s", "b"},
		}
	}
	want := "size n, m;\nwhere 0 <= n - 1;\nwhere 0 == m - n;\nin a: frac[n, 2];\nin b: int[];\ndef s: frac[] = sum i < n: a[i, 0];\nout s, b;\n"
	if got := printer.Prog(p()); got != want {
		t.Errorf("Prog = %q", got)
	}
	if got := printer.Prog(api.Prog{}); got != "" {
		t.Errorf("the empty program: %q", got)
	}
	if got := printer.Prog(api.Prog{Params: p().Params[1:], Outs: []string{"q", "q"}}); got != "in b: int[];\nout q, q;\n" {
		t.Errorf("Prog = %q", got)
	}
	for at, change := range []func(p *api.Prog){
		func(p *api.Prog) { p.Sizes[1] = "M" }, func(p *api.Prog) { p.Where[1].Lin = bad }, func(p *api.Prog) { p.Params[1].Name = "in" }, func(p *api.Prog) { p.Params[0].Type = api.Type{} },
		func(p *api.Prog) { p.Params[0].Dims[1] = bad }, func(p *api.Prog) { p.Defs[0].Fold = 9 }, func(p *api.Prog) { p.Outs[0] = "" }, func(p *api.Prog) { p.Outs[1] = "abcdefghijklmnopq" },
	} {
		x := p()
		change(&x)
		if got := printer.Prog(x); got != "" {
			t.Errorf("change %d: %q", at, got)
		}
	}
}
