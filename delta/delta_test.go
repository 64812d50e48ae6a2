package delta_test

import (
	"testing"

	"brocade/api"
	"brocade/delta"
	"brocade/eval"
	"brocade/expr"
	"brocade/lin"
	"brocade/parser"
	"brocade/printer"
	"brocade/program"
	"brocade/tensor"
)

func parse(t *testing.T, s string) api.Expr {
	t.Helper()
	e, at, err := parser.Expr(s)
	if err != api.OK {
		t.Fatalf("%q: %d, %v", s, at, err)
	}
	return e
}

func parseProg(t *testing.T, s string) api.Prog {
	t.Helper()
	p, at, err := parser.Prog(s)
	if err != api.OK {
		t.Fatalf("%q: %d, %v", s, at, err)
	}
	return p
}

func TestSolve(t *testing.T) {
	for _, x := range []struct{ c, name, want string }{
		{"[k] == [i + 1]", "k", "i + 1"}, {"[i + 1] == [k]", "k", "i + 1"}, {"[k] == int(-3)", "k", "-3"}, {"int(4) == [k]", "k", "4"}, {"[k] == [j]", "j", "k"}, {"[k] == [j]", "k", "j"}, {"[k] == [0]", "k", "0"},
		{"[k] == [k]", "k", ""}, {"[k] == [k + 1]", "k", ""}, {"[2*k] == [i]", "k", ""}, {"[k + 1] == [i]", "k", ""}, {"[-k] == [i]", "k", ""}, {"[k] <= [i]", "k", ""}, {"[k] == a[i]", "k", ""}, {"frac(1) == frac(1)", "k", ""}, {"[k] == frac(1)", "k", ""}, {"[k] == [i]", "q", ""}, {"[k] == [i]", "sum", ""}, {"[k] == [i] + int(1)", "k", ""}, {"[k]", "k", ""}, {"!([k] == [i])", "k", ""},
	} {
		f, ok := delta.Solve(parse(t, x.c), x.name)
		if ok != (x.want != "") || ok && lin.Format(f) != x.want || !ok && !lin.Same(f, api.Lin{}) {
			t.Errorf("Solve(%q, %s) = %v, %v", x.c, x.name, f, ok)
		}
	}
	bad := parse(t, "[k] == [i]")
	bad.Name = "x"
	if _, ok := delta.Solve(bad, "k"); ok {
		t.Error("an invalid condition")
	}
	if _, ok := delta.Solve(parse(t, "[] == []"[:0]+"[0] == [0]"), ""); ok {
		t.Error("the zero form is no variable")
	}
}

func TestGuard(t *testing.T) {
	for _, x := range []struct {
		e     string
		conds []string
		then  string
	}{
		{"if(a[] < b[], c[i], frac(0))", []string{"a[] < b[]"}, "c[i]"}, {"if(a[] < b[] & (a[] == b[] & !(a[] < b[] & a[] < c[])), c[i], int(0))", []string{"a[] < b[]", "a[] == b[]", "!(a[] < b[] & a[] < c[])"}, "c[i]"}, {"if(a[] < b[] | a[] == b[], c[i], fix(8, 4, even, sat)(0))", []string{"a[] < b[] | a[] == b[]"}, "c[i]"},
		{"if(a[] < b[], c[i], frac(1))", nil, ""}, {"if(a[] < b[], c[i], [0])", nil, ""}, {"a[]", nil, ""}, {"a[] < b[]", nil, ""},
	} {
		conds, then, ok := delta.Guard(parse(t, x.e))
		if ok != (x.then != "") || len(conds) != len(x.conds) || printer.Expr(then) != x.then {
			t.Errorf("Guard(%q) = %v, %v, %v", x.e, conds, then, ok)
			continue
		}
		for i, c := range conds {
			if printer.Expr(c) != x.conds[i] {
				t.Errorf("Guard(%q): condition %d is %s", x.e, i, printer.Expr(c))
			}
		}
	}
	bad := parse(t, "if(a[] < b[], c[i], frac(0))")
	bad.Args[1].Val.N = 1
	if c, e, ok := delta.Guard(bad); ok || len(c) != 0 || !expr.Same(e, api.Expr{}) {
		t.Error("an invalid expression")
	}
}

func TestDef(t *testing.T) {
	for _, x := range []struct{ s, axis, want string }{
		{"sum k < m: if([k] == [i + 1], a[k], frac(0))", "k", "if(int(0) <= [i + 1] & [i + 1] < [m], a[i + 1], frac(0))"},
		{"sum j < m, k < m: if([k] == [j], a[k], frac(0))", "k", "sum j < m: if(int(0) <= [j] & [j] < [m], a[j], frac(0))"}, {"sum j < m, k < m: if([k] == [j], a[k], frac(0))", "j", ""}, {"sum k < m, j < m: if([k] == [j], a[k], frac(0))", "j", "sum k < m: if(int(0) <= [k] & [k] < [m], a[k], frac(0))"}, {"sum k < m, j < m: if([k] == [j], a[k], frac(0))", "k", ""},
		{"sum k < m: if(a[k] < a[0] & [k] == [i] & [k] == [2] & [i] < [k + 1], a[2*k] + a[k], frac(0))", "k", "if(int(0) <= [i] & [i] < [m], if(a[i] < a[0], if([i] == [2], if([i] < [i + 1], a[2*i] + a[i], frac(0)), frac(0)), frac(0)), frac(0))"},
		{"sum k < m, j < 2: if([k] == [j] & int(3) == [k], a[k], frac(0))", "k", "sum j < 2: if(int(0) <= [3] & [3] < [m], if([3] == [j], a[3], frac(0)), frac(0))"},
		{"prod k < m: if([k] == [i], a[k], frac(0))", "k", ""}, {"sum k < m: if([k] == [i], a[k], frac(1))", "k", ""}, {"sum k < m: if([k] == [i], a[k], frac(0))", "i", ""}, {"sum k < m: if([k] == [i], a[k], frac(0))", "q", ""}, {"sum k < m: if([k] == [i] | [k] == [0], a[k], frac(0))", "k", ""}, {"sum k < m: a[k]", "k", ""}, {"sum k < m: if([k] == [9223372036854775807*i], a[2*k], frac(0))", "k", ""}, {"sum k < m: if([k] == [9223372036854775807*i] & [2*k] < [0], a[k], frac(0))", "k", ""},
	} {
		p := parseProg(t, "def b: frac[i < n] = "+x.s+";")
		got, ok := delta.Def(p.Defs[0], x.axis)
		want := ""
		if x.want != "" {
			want = "def b: frac[i < n] = " + x.want + ";"
		}
		if printer.Def(got) != want || ok != (want != "") || !ok && !program.Same(api.Prog{Defs: []api.Def{got}}, api.Prog{Defs: []api.Def{{}}}) {
			t.Errorf("Def(%q, %s) = %s, %v", x.s, x.axis, printer.Def(got), ok)
		}
		if printer.Prog(p) != "def b: frac[i < n] = "+x.s+";\n" {
			t.Errorf("%q: the argument is changed", x.s)
		}
	}
	// The new body would be nested too deeply.
	p := parseProg(t, "def b: frac[i < n] = sum k < m: if([k] == [i] & [i] == [j], a[k], frac(0));")
	for range 37 {
		p.Defs[0].Body.Args[1] = api.Expr{Op: api.ENeg, Args: []api.Expr{p.Defs[0].Body.Args[1]}}
	}
	if _, ok := delta.Def(p.Defs[0], "k"); !ok {
		t.Error("a body of depth 40")
	}
	p.Defs[0].Body.Args[1] = api.Expr{Op: api.ENeg, Args: []api.Expr{p.Defs[0].Body.Args[1]}}
	if _, ok := delta.Def(p.Defs[0], "k"); ok {
		t.Error("a body of depth 41")
	}
}

func TestProg(t *testing.T) {
	text := "size n, m; in a: frac[m]; def b: frac[i < n] = sum k < m: if([k] == [i + 1], a[k], frac(0)); def c: frac[] = sum i < n, j < n, k < m: if([i] == [j] & [k] == [i], a[k], frac(0)); def d: frac[i < n] = sum k < m: if([k] == [i] & a[k] < frac(2), a[k] * a[k], frac(0)); def e: frac[] = sum k < m: a[k]; out b, c, d, e;"
	p := parseProg(t, text)
	q, count := delta.Prog(p)
	if count != 3 || printer.Prog(p) == printer.Prog(q) {
		t.Error(count, printer.Prog(q))
	}
	if _, err := program.Validate(q); err != api.OK {
		t.Error(err)
	}
	for _, d := range q.Defs {
		for _, a := range d.Red {
			if _, ok := delta.Def(d, a.Name); ok {
				t.Errorf("Def still applies to %s", d.Name)
			}
		}
	}
	var a api.Tensor
	a.Type, a.Dims = api.Type{Kind: api.KFrac}, []int{3}
	a.Vals = []api.Val{{N: 1, D: 2}, {N: 3, D: 1}, {N: -1, D: 4}}
	for n := int64(1); n <= 4; n++ {
		sizes := []api.Binding{{Name: "n", Val: n}, {Name: "m", Val: 3}}
		one, e1 := eval.Run(p, sizes, []api.Named{{Name: "a", Tensor: a}})
		two, e2 := eval.Run(q, sizes, []api.Named{{Name: "a", Tensor: a}})
		if e1 != api.OK || e2 != api.OK {
			t.Fatal(e1, e2)
		}
		for i := range one {
			if !tensor.Same(one[i].Tensor, two[i].Tensor) {
				t.Errorf("n %d: %v, %v", n, one[i], two[i])
			}
		}
	}
	p.Outs = append(p.Outs, "q")
	if q, count := delta.Prog(p); count != 0 || !program.Same(q, p) {
		t.Error("an invalid program is returned as it is")
	}
}
