package simplify_test

import (
	"testing"

	"brocade/api"
	"brocade/eval"
	"brocade/expr"
	"brocade/parser"
	"brocade/printer"
	"brocade/program"
	"brocade/simplify"
	"brocade/tensor"
)

var (
	kfrac = api.Type{Kind: api.KFrac}
	kint  = api.Type{Kind: api.KInt}
	sat   = api.Type{Kind: api.KFix, Bits: 8, Frac: 4, Round: api.REven, Over: api.OSat}
	wrap  = api.Type{Kind: api.KFix, Bits: 6, Frac: 2, Round: api.RFloor, Over: api.OWrap}
	tiny  = api.Type{Kind: api.KFix, Bits: 4, Frac: 3, Round: api.RFloor, Over: api.OWrap}
)

func parse(t *testing.T, s string) api.Expr {
	t.Helper()
	e, at, err := parser.Expr(s)
	if err != api.OK {
		t.Fatalf("%q: %d, %v", s, at, err)
	}
	return e
}

func parseProg(t *testing.T, s string) api.Prog {
	t.Helper()
	p, at, err := parser.Prog(s)
	if err != api.OK {
		t.Fatalf("%q: %d, %v", s, at, err)
	}
	return p
}

func TestStep(t *testing.T) {
	const s, w, y = "fix(8, 4, even, sat)", "fix(6, 2, floor, wrap)", "fix(4, 3, floor, wrap)"
	for _, x := range []struct {
		t             api.Type
		s, want, rule string
	}{
		{kfrac, "frac(1/2) + frac(1/3)", "frac(5/6)", "fold"}, {kint, "int(7) / int(-2)", "int(-4)", "fold"}, {kint, "int(7) / int(0)", "", ""}, {kint, "-int(7)", "int(-7)", "fold"}, {kint, "min(int(3), int(2))", "int(2)", "fold"}, {kint, "max(int(3), int(2)) * int(5)", "int(3) * int(5)", "fold"}, {kint, "int(2147483647) + int(1)", "", ""}, {sat, s + "(7) + " + s + "(7)", s + "(127/16)", "fold"}, {kfrac, "frac(3) - frac(5)", "frac(-2)", "fold"}, {kfrac, "frac(3) + int(5)", "", ""},
		{kint, "cast(int, frac(-7/2))", "int(-4)", "cast"}, {sat, "cast(" + s + ", frac(1/3))", s + "(5/16)", "cast"}, {kint, "cast(int, [i])", "[i]", "cast"}, {kfrac, "cast(frac, cast(frac, a[]))", "cast(frac, a[])", "cast"}, {kfrac, "cast(frac, a[])", "", ""}, {kint, "cast(int, a[] + [i])", "a[] + [i]", "cast"}, {kint, "cast(int, if(a[] < b[], [i], int(2)))", "if(a[] < b[], [i], int(2))", "cast"}, {kint, "cast(int, if(a[] < b[], [i], c[]))", "", ""}, {kint, "cast(int, -min(a[], [i]))", "-min(a[], [i])", "cast"}, {kfrac, "cast(frac, [i])", "", ""},
		{kint, "[5]", "int(5)", "index"}, {kint, "[2147483647]", "int(2147483647)", "index"}, {kint, "[2147483648]", "", ""}, {kint, "[-2147483647]", "int(-2147483647)", "index"}, {kint, "[-2147483648]", "", ""}, {kint, "[i] + int(2)", "[i + 2]", "index"}, {kint, "int(2) - [i]", "[-i + 2]", "index"}, {kint, "[i] - [j]", "[i - j]", "index"}, {kint, "int(3) * [i + 1]", "[3*i + 3]", "index"}, {kint, "[i + 1] * int(-3)", "[-3*i - 3]", "index"}, {kint, "[i] * [j]", "", ""}, {kint, "-[i - 3]", "[-i + 3]", "index"}, {kint, "[i] + frac(2)", "", ""}, {kint, "[i + 9223372036854775807] + [j + 1]", "", ""}, {kint, "[9223372036854775807*i] * int(2)", "", ""}, {kint, "-[-9223372036854775808*i]", "", ""}, {kint, "[i] - [-9223372036854775808*i]", "", ""}, {kint, "int(2) / [i]", "", ""},
		{kint, "if(int(1) < int(2), a[], b[])", "a[]", "if"}, {kint, "if(int(2) <= int(1), a[], b[])", "b[]", "if"}, {kint, "if([i] < [i + 1], a[], b[])", "a[]", "if"}, {kint, "if([i + 2] == [i + 1] + a[], a[], b[])", "", ""}, {kint, "if(a[] <= a[], b[], c[])", "b[]", "if"}, {kint, "if(a[] < a[], b[], c[])", "c[]", "if"}, {kint, "if(a[] == a[], b[], c[])", "b[]", "if"}, {kint, "if(!(a[] < a[]), b[], c[])", "b[]", "if"}, {kint, "if(a[] < b[] & c[] < c[], b[], c[])", "c[]", "if"}, {kint, "if(c[] < c[] & a[] < b[], b[], c[])", "c[]", "if"}, {kint, "if(a[] < b[] | c[] == c[], b[], c[])", "b[]", "if"}, {kint, "if(c[] < c[] | d[] < d[], b[], c[])", "c[]", "if"}, {kint, "if(c[] <= c[] & d[] <= d[], b[], c[])", "b[]", "if"}, {kint, "if(frac(1) == frac(1), b[], c[])", "b[]", "if"}, {kint, "if(int(1) == frac(1), b[], c[])", "", ""}, {kint, "if([i] < int(1), b[], c[])", "", ""}, {kint, "if([9223372036854775807] < [-9223372036854775807], b[], c[])", "", ""},
		{kint, "if(a[] < b[], c[], c[])", "c[]", "same"}, {kint, "min(a[i], a[i])", "a[i]", "same"}, {kint, "max(a[i], a[j])", "", ""}, {kint, "max(a[i], a[i])", "a[i]", "same"}, {kint, "if(a[] < b[] & a[] < b[], c[], d[])", "if(a[] < b[], c[], d[])", "same"}, {kint, "if(a[] < b[] | a[] < b[], c[], d[])", "if(a[] < b[], c[], d[])", "same"},
		{kint, "a[] + int(0)", "a[]", "zero"}, {kint, "int(0) + a[]", "a[]", "zero"}, {kint, "a[] - int(0)", "a[]", "zero"}, {kint, "int(0) - a[]", "-a[]", "zero"}, {kfrac, "a[] * frac(0)", "frac(0)", "zero"}, {kfrac, "frac(0) * a[]", "frac(0)", "zero"}, {sat, s + "(0) / a[]", s + "(0)", "zero"}, {kfrac, "a[] / frac(0)", "", ""}, {kfrac, "min(a[], frac(0))", "", ""}, {kfrac, "a[i] * frac(1) + frac(0)", "a[i] * frac(1)", "zero"},
		{kfrac, "a[i] * frac(1)", "a[i]", "one"}, {kfrac, "frac(1) * a[i]", "a[i]", "one"}, {kfrac, "a[i] / frac(1)", "a[i]", "one"}, {kfrac, "frac(1) / a[i]", "", ""}, {sat, "a[i] * " + s + "(1)", "a[i]", "one"}, {tiny, "a[i] * " + y + "(1/8)", "", ""}, {kfrac, "a[] + frac(1)", "", ""},
		{kfrac, "a[] - a[]", "frac(0)", "cancel"}, {kint, "a[] / a[]", "int(1)", "cancel"}, {sat, "a[] - a[]", s + "(0)", "cancel"}, {sat, "a[] / a[]", "", ""}, {kint, "cast(int, a[] - a[])", "", ""}, {kint, "if(a[] - a[] < b[], c[], d[])", "", ""}, {kint, "if(a[] - a[] < frac(2), c[], d[])", "if(frac(0) < frac(2), c[], d[])", "cancel"}, {kint, "if(frac(2) < a[] - a[], c[], d[])", "if(frac(2) < frac(0), c[], d[])", "cancel"}, {kint, "if(b[] < c[], a[] - a[], d[])", "if(b[] < c[], int(0), d[])", "cancel"}, {kint, "-(a[] - a[])", "-int(0)", "cancel"}, {kint, "a[] - b[]", "", ""},
		{kint, "--a[]", "a[]", "negate"}, {sat, "--a[]", "", ""}, {wrap, "--a[]", "a[]", "negate"}, {kint, "a[] + -b[]", "a[] - b[]", "negate"}, {kint, "-a[] + b[]", "b[] - a[]", "negate"}, {kint, "-a[] + -b[]", "-a[] - b[]", "negate"}, {kint, "a[] - -b[]", "a[] + b[]", "negate"}, {sat, "a[] - -b[]", "", ""}, {kint, "-a[] - b[]", "", ""}, {kint, "if(--a[] < b[], c[], d[])", "", ""}, {kfrac, "cast(frac, --a[])", "", ""},
		{kint, "if(!!(a[] == b[]), c[], d[])", "if(!a[] == b[], d[], c[])", "not"}, {kint, "if(!(a[] < b[]), int(1), int(2))", "if(a[] < b[], int(2), int(1))", "not"}, {kint, "if(!(a[] < b[]) & c[] < d[], int(1), int(2))", "if(b[] <= a[] & c[] < d[], int(1), int(2))", "not"}, {kint, "if(!(a[] <= b[]) & c[] < d[], int(1), int(2))", "if(b[] < a[] & c[] < d[], int(1), int(2))", "not"}, {kint, "if(!!(a[] <= b[]) & c[] < d[], int(1), int(2))", "if(a[] <= b[] & c[] < d[], int(1), int(2))", "not"}, {kint, "if(!(a[] == b[]) & c[] < d[], int(1), int(2))", "", ""},
		{kint, "if(a[] < b[] & c[] <= c[], int(1), int(2))", "if(a[] < b[], int(1), int(2))", "logic"}, {kint, "if(c[] <= c[] & a[] < b[], int(1), int(2))", "if(a[] < b[], int(1), int(2))", "logic"}, {kint, "if(c[] < c[] | a[] < b[], int(1), int(2))", "if(a[] < b[], int(1), int(2))", "logic"}, {kint, "if(a[] < b[] | c[] < c[], int(1), int(2))", "if(a[] < b[], int(1), int(2))", "logic"},
		{kint, "a[i] < b[] & c[] <= c[]", "a[i] < b[]", "logic"}, {kint, "c[] <= c[] & d[] == d[]", "d[] == d[]", "logic"}, {kint, "c[] <= c[]", "", ""}, {kfrac, "int(1) + int(2) < [i]", "int(3) < [i]", "fold"}, {kint, "a[] - a[] < int(3)", "int(0) < int(3)", "cancel"}, {kint, "int(3) < a[] - a[]", "int(3) < int(0)", "cancel"}, {api.Type{}, "int(1) + int(2)", "", ""},
		{kint, "(a[] + int(0)) * (int(1) + int(2))", "a[] * (int(1) + int(2))", "zero"}, {kint, "(a[] + int(0)) * (int(1) + int(2)) + int(0)", "(a[] + int(0)) * (int(1) + int(2))", "zero"}, {w2(), "int(0) * [5]", "[0]", "index"},
	} {
		e := parse(t, x.s)
		got, rule, ok := simplify.Step(x.t, e)
		want := x.want
		if x.rule == "" {
			want = printer.Expr(e)
		}
		if printer.Expr(got) != want || rule != x.rule || ok != (x.rule != "") {
			t.Errorf("Step(%q) = %q, %q, %v; want %q, %q", x.s, printer.Expr(got), rule, ok, want, x.rule)
		}
		if !expr.Same(e, parse(t, x.s)) {
			t.Errorf("%q: the argument is changed", x.s)
		}
	}
	bad := api.Expr{Op: api.EAdd, Args: []api.Expr{parse(t, "int(1) + int(2)")}}
	if got, rule, ok := simplify.Step(kint, bad); !expr.Same(got, bad) || rule != "" || ok {
		t.Error(got, rule, ok)
	}
	if got := simplify.Expr(kint, bad); !expr.Same(got, bad) {
		t.Error(got)
	}
}

func w2() api.Type { return kint }

func TestExpr(t *testing.T) {
	for _, x := range []struct {
		t       api.Type
		s, want string
	}{{kfrac, "a[i] * frac(1) + frac(0)", "a[i]"}, {kfrac, "if([i] < [i + 1], a[i], b[i])", "a[i]"}, {sat, "--a[i]", "--a[i]"}, {kint, "[i] + int(2) - [i]", "int(2)"}, {kint, "if(!!(a[] == b[]), c[], d[])", "if(a[] == b[], c[], d[])"}, {kint, "(a[] + -a[]) * b[] + (int(2) + int(3))", "int(5)"}, {api.Type{Kind: 9}, "int(1) + int(2)", "int(1) + int(2)"}} {
		if got := printer.Expr(simplify.Expr(x.t, parse(t, x.s))); got != x.want {
			t.Errorf("Expr(%q) = %q", x.s, got)
		}
	}
}

func TestProg(t *testing.T) {
	p := parseProg(t, "size n; in a: frac[n]; def b: frac[i < n] = a[i] * frac(1) + frac(0); def c: fix(8, 4, even, sat)[] = --fix(8, 4, even, sat)(1); def d: int[i < n] = sum k < 3: [i] - [i]; out b;")
	got, steps := simplify.Prog(p)
	want := "size n;\nin a: frac[n];\ndef b: frac[i < n] = a[i];\ndef c: fix(8, 4, even, sat)[] = fix(8, 4, even, sat)(1);\ndef d: int[i < n] = sum k < 3: int(0);\nout b;\n"
	if printer.Prog(got) != want || steps != 2+2+2 {
		t.Errorf("%s %d", printer.Prog(got), steps)
	}
	p.Outs[0] = "q"
	if got, steps := simplify.Prog(p); !program.Same(got, p) || steps != 0 {
		t.Error("an invalid program is returned as it is", steps)
	}
}

func TestCost(t *testing.T) {
	for s, want := range map[string]int{"int(1)": 0, "[i]": 0, "a[i, j]": 1, "a[t[i], j, u[]]": 3, "a[i] + b[] * int(2)": 4, "if(a[] < b[] & !(a[] == b[]), -a[], cast(int, b[]))": 13, "min(a[t[i]], int(3))": 3} {
		if got := simplify.Cost(parse(t, s)); got != want {
			t.Errorf("Cost(%q) = %d", s, got)
		}
	}
	if simplify.Cost(api.Expr{}) != 1 || simplify.Cost(api.Expr{Op: 77, Args: []api.Expr{{Op: api.ERead}, {}}}) != 3 || simplify.Cost(api.Expr{Op: api.EVal, Args: []api.Expr{{}}}) != 0 {
		t.Error("Cost of invalid expressions")
	}
}

func TestCannotFail(t *testing.T) {
	const s = "fix(8, 4, even, sat)"
	for _, x := range []struct {
		t    api.Type
		s    string
		want bool
	}{
		{sat, "a[] + b[]", true}, {kfrac, "a[] + b[]", false}, {kint, "a[] + b[]", false}, {sat, "a[] - b[] * c[]", true}, {kint, "a[] - b[]", false}, {kint, "a[] * b[]", false}, {sat, "a[] / b[]", false}, {sat, "a[] / " + s + "(1/2)", true}, {sat, "a[] / " + s + "(0)", false}, {kint, "a[] / int(2)", false}, {kfrac, "-min(a[], max(b[], frac(1/2)))", true}, {kint, "cast(int, a[])", true}, {kint, "cast(int, a[] + b[])", false}, {kint, "cast(int, a[] + " + s + "(1))", true}, {kfrac, "if(a[] < b[] & !(a[] == b[]), a[], b[])", true}, {kfrac, "if(a[] + b[] < b[], a[], b[])", false}, {kfrac, "if(" + s + "(1) < b[] * c[], a[], b[])", true}, {kfrac, "if(b[] < b[] * c[], a[], b[])", false},
		{kfrac, "a[0]", true}, {kfrac, "a[1]", false}, {kfrac, "a[i]", false}, {kfrac, "a[0, 0]", true}, {kfrac, "a[t[0, 0]]", true}, {kfrac, "a[t[0, i]]", false}, {kfrac, "a[t[]]", true}, {kfrac, "a[t[1]]", false}, {kfrac, "a[0, t[0], i]", false},
		{kint, "[i]", true}, {kint, "[524287*i]", true}, {kint, "[524287*i + 4095]", true}, {kint, "[524287*i + 4096]", false}, {kint, "[-524287*i - 4096]", false}, {kint, "[-524287*i - 4095]", true}, {kint, "[524288*i]", false}, {kint, "[262143*i - 262144*j]", true}, {kint, "[262144*i - 262144*j]", false}, {kint, "[9223372036854775807*i]", false}, {kint, "[-9223372036854775808*i]", false}, {kint, "[2147483647]", true}, {kint, "[-2147483647]", true}, {kint, "[2147483648]", false}, {kint, "[-9223372036854775808]", false},
		{kint, "[i] < a[]", true}, {kint, "a[] + b[] < c[]", false}, {api.Type{}, "int(1)", false},
	} {
		if got := simplify.CannotFail(x.t, parse(t, x.s)); got != x.want {
			t.Errorf("CannotFail(%v, %q) = %v", x.t, x.s, got)
		}
	}
	if simplify.CannotFail(kint, api.Expr{Op: api.ENeg}) {
		t.Error("an invalid expression")
	}
}

// generator draws typed expressions over a small memory.
type generator struct{ seed uint64 }

func (g *generator) next(n int) int {
	g.seed = g.seed*6364136223846793005 + 1442695040888963407
	return int(g.seed>>33) % n
}

func (g *generator) form() api.Lin {
	f := api.Lin{K: int64(g.next(3) - 1)}
	for _, n := range []string{"i", "j"} {
		if by := g.next(5) - 2; by != 0 && g.next(2) == 0 {
			f.L = append(f.L, api.Mono{Name: n, By: int64(by)})
		}
	}
	return f
}

func (g *generator) expr(t api.Type, depth int) api.Expr {
	if depth == 0 || g.next(8) == 0 {
		switch k := g.next(4); {
		case k == 0 && t == kint:
			return api.Expr{Op: api.EIdx, Lin: g.form()}
		case k <= 1:
			return api.Expr{Op: api.ERead, Name: map[api.Type]string{kint: "b", kfrac: "a", sat: "f", wrap: "w"}[t], Idx: []api.Index{{Lin: api.Lin{K: int64(g.next(2))}}}}
		}
		n := int64(g.next(4) - 1)
		if t.Kind == api.KFix {
			n <<= t.Frac
		}
		return api.Expr{Op: api.EVal, Type: t, Val: api.Val{N: n, D: 1}}
	}
	switch op := api.EAdd + g.next(9); op {
	case api.ENeg:
		return api.Expr{Op: op, Args: []api.Expr{g.expr(t, depth-1)}}
	case api.EIf:
		return api.Expr{Op: op, Args: []api.Expr{g.cond(depth - 1), g.expr(t, depth-1), g.expr(t, depth-1)}}
	case api.ECast:
		from := []api.Type{kint, kfrac, sat, wrap}[g.next(4)]
		return api.Expr{Op: op, Type: t, Args: []api.Expr{g.expr(from, depth-1)}}
	default:
		a := g.expr(t, depth-1)
		if g.next(5) == 0 {
			return api.Expr{Op: op, Args: []api.Expr{a, expr.Copy(a)}}
		}
		return api.Expr{Op: op, Args: []api.Expr{a, g.expr(t, depth-1)}}
	}
}

func (g *generator) cond(depth int) api.Expr {
	if op := api.CLt + g.next(6); depth > 0 && op > api.CEq {
		if op == api.CNot {
			return api.Expr{Op: op, Args: []api.Expr{g.cond(depth - 1)}}
		}
		return api.Expr{Op: op, Args: []api.Expr{g.cond(depth - 1), g.cond(depth - 1)}}
	}
	t := []api.Type{kint, kfrac, sat, wrap}[g.next(4)]
	d := max(depth-1, 0)
	return api.Expr{Op: api.CLt + g.next(3), Args: []api.Expr{g.expr(t, d), g.expr(t, d)}}
}

func pair(name string, t api.Type, a, b api.Val) api.Named {
	return api.Named{Name: name, Tensor: api.Tensor{Type: t, Dims: []int{2}, Vals: []api.Val{a, b}}}
}

// TestMeaning holds 21.5 for random expressions.
func TestMeaning(t *testing.T) {
	v := func(n, d int64) api.Val { return api.Val{N: n, D: d} }
	mem := []api.Named{pair("a", kfrac, v(1, 2), v(-2, 3)), pair("b", kint, v(3, 1), v(-1, 1)), pair("f", sat, v(-128, 1), v(24, 1)), pair("w", wrap, v(-32, 1), v(5, 1))}
	g := &generator{seed: 9}
	done, changed := 0, 0
	for k := range 20000 {
		typ := []api.Type{kint, kfrac, sat, wrap}[k%4]
		e := g.expr(typ, 1+k%4)
		env := []api.Binding{{Name: "i", Val: int64(g.next(4))}, {Name: "j", Val: int64(g.next(4))}}
		want, _, err := eval.Expr(mem, env, e)
		one, _, ok := simplify.Step(typ, e)
		all := simplify.Expr(typ, e)
		if _, _, more := simplify.Step(typ, all); more || expr.Size(all) > expr.Size(e) || simplify.Cost(all) > simplify.Cost(e) {
			t.Fatalf("Expr(%s) = %s", printer.Expr(e), printer.Expr(all))
		}
		if ok == expr.Same(one, e) {
			t.Fatalf("Step(%s) = %s, %v", printer.Expr(e), printer.Expr(one), ok)
		}
		if err != api.OK {
			if simplify.CannotFail(typ, e) && err != api.ErrBounds {
				t.Fatalf("%s fails with %v", printer.Expr(e), err)
			}
			continue
		}
		done++
		if ok {
			changed++
		}
		for _, x := range []api.Expr{one, all} {
			if got, gt, err := eval.Expr(mem, env, x); got != want || gt != typ || err != api.OK {
				t.Fatalf("%s is %v, but %s is %v, %v", printer.Expr(e), want, printer.Expr(x), got, err)
			}
		}
	}
	if done < 5000 || changed < 2000 {
		t.Error(done, changed)
	}
}

func TestProgMeaning(t *testing.T) {
	p := parseProg(t, "size n; in a: frac[n]; def b: frac[i < n] = a[i] * frac(1) + frac(0) * a[0]; def c: int[i < n] = scan: [i] + int(1) - [i]; def d: frac[] = sum i < n: if(!([i] < [1]), b[i], b[i] - b[i]); out b, c, d;")
	q, _ := simplify.Prog(p)
	ins := []api.Named{{Name: "a", Tensor: api.Tensor{Type: kfrac, Dims: []int{3}, Vals: []api.Val{{N: 1, D: 2}, {N: 3, D: 1}, {N: -1, D: 1}}}}}
	one, e1 := eval.All(p, []api.Binding{{Name: "n", Val: 3}}, ins)
	two, e2 := eval.All(q, []api.Binding{{Name: "n", Val: 3}}, ins)
	if e1 != api.OK || e2 != api.OK || len(one) != 3 {
		t.Fatal(e1, e2)
	}
	for i := range one {
		if !tensor.Same(one[i].Tensor, two[i].Tensor) {
			t.Error(one[i], two[i])
		}
	}
	if _, err := program.Validate(q); err != api.OK {
		t.Error(err)
	}
}
