package expr_test

import (
	"math"
	"slices"
	"strconv"
	"testing"

	"brocade/api"
	"brocade/expr"
	"brocade/lin"
)

var (
	kint  = api.Type{Kind: api.KInt}
	kfrac = api.Type{Kind: api.KFrac}
)

func form(k int64, l ...any) api.Lin {
	f := api.Lin{K: k}
	for i := 0; i < len(l); i += 2 {
		f.L = append(f.L, api.Mono{Name: l[i].(string), By: int64(l[i+1].(int))})
	}
	return f
}

func at(f api.Lin) api.Index { return api.Index{Lin: f} }

func gather(from string, l ...api.Lin) api.Index { return api.Index{From: from, At: l} }

func num(n int64) api.Expr {
	return api.Expr{Op: api.EVal, Type: kint, Val: api.Val{N: n, D: 1}}
}

func idx(f api.Lin) api.Expr { return api.Expr{Op: api.EIdx, Lin: f} }

func read(name string, l ...api.Index) api.Expr {
	return api.Expr{Op: api.ERead, Name: name, Idx: l}
}

func op(o int, l ...api.Expr) api.Expr { return api.Expr{Op: o, Args: l} }

func cast(t api.Type, e api.Expr) api.Expr {
	return api.Expr{Op: api.ECast, Type: t, Args: []api.Expr{e}}
}

var (
	i, j = form(0, "i", 1), form(0, "j", 1)
	less = op(api.CLt, idx(i), num(3))
	// one is a[i, 2] + 3, rich has every kind of node.
	one  = op(api.EAdd, read("a", at(i), at(form(2))), num(3))
	rich = op(api.EIf, op(api.COr, op(api.CNot, less), op(api.CAnd, op(api.CLe, num(1), idx(j)), op(api.CEq, num(1), num(2)))),
		op(api.EMul, read("b", gather("t", i, form(1, "j", 2)), at(j)), op(api.ENeg, cast(kint, read("c")))),
		op(api.EMin, op(api.EDiv, idx(form(5, "k", 3)), num(7)), op(api.EMax, op(api.ESub, num(0), num(1)), read("a"))))
)

func chain(many int) api.Expr {
	e := num(1)
	for range many {
		e = op(api.ENeg, e)
	}
	return e
}

// wide has the given number of nodes, as flat as operators allow.
func wide(many int) api.Expr {
	if many == 1 {
		return num(1)
	}
	if many%2 == 0 {
		return op(api.ENeg, wide(many-1))
	}
	left := (many - 1) / 2
	return op(api.EAdd, wide(left), wide(many-1-left))
}

func TestValidate(t *testing.T) {
	seven := make([]api.Lin, 7)
	badIdx := api.Expr{Op: api.EIdx, Lin: form(0, "i", 0)}
	with := func(e api.Expr, change func(*api.Expr)) api.Expr {
		change(&e)
		return e
	}
	for k, x := range []struct {
		e   api.Expr
		err api.Errno
	}{
		{one, 0}, {rich, 0}, {less, 0}, {chain(39), 0}, {wide(2000), 0}, {read("a", at(i), at(i), at(i), at(i), at(i), gather("t", seven[:6]...)), 0}, {read("a", gather("t")), 0},
		{chain(40), api.ErrDepth}, {op(api.ENeg, chain(100), num(1)), api.ErrDepth}, {wide(2001), api.ErrLimit}, {op(99, wide(2000), num(1)), api.ErrLimit},
		{api.Expr{}, api.ErrSyntax}, {op(19), api.ErrSyntax}, {op(-1), api.ErrSyntax}, {op(math.MaxInt), api.ErrSyntax},
		{with(one, func(e *api.Expr) { e.Val.N = 1 }), api.ErrSyntax}, {with(one, func(e *api.Expr) { e.Val.D = 1 }), api.ErrSyntax}, {with(one, func(e *api.Expr) { e.Type = kint }), api.ErrSyntax}, {with(one, func(e *api.Expr) { e.Lin.K = 1 }), api.ErrSyntax}, {with(one, func(e *api.Expr) { e.Name = "x" }), api.ErrSyntax}, {with(one, func(e *api.Expr) { e.Idx = []api.Index{{}} }), api.ErrSyntax},
		{with(num(1), func(e *api.Expr) { e.Lin = i }), api.ErrSyntax}, {with(num(1), func(e *api.Expr) { e.Name = "x" }), api.ErrSyntax}, {with(idx(i), func(e *api.Expr) { e.Type = kint }), api.ErrSyntax}, {with(read("a"), func(e *api.Expr) { e.Lin = i }), api.ErrSyntax}, {with(read("a"), func(e *api.Expr) { e.Val.N = 3 }), api.ErrSyntax}, {with(cast(kint, num(1)), func(e *api.Expr) { e.Val.N = 3 }), api.ErrSyntax}, {with(less, func(e *api.Expr) { e.Lin.K = 3 }), api.ErrSyntax},
		{read("", api.Index{At: []api.Lin{i}}), api.ErrSyntax}, {read("a", api.Index{From: "t", Lin: i}), api.ErrSyntax}, {read("a", api.Index{From: "t", Lin: form(1)}), api.ErrSyntax}, {with(read("Q"), func(e *api.Expr) { e.Lin = i }), api.ErrSyntax},
		{read("Q"), api.ErrName}, {read(""), api.ErrName}, {read("sum", gather("Q")), api.ErrName}, {read("a", gather("if")), api.ErrName}, {with(read("if"), func(e *api.Expr) { e.Args = []api.Expr{num(1)} }), api.ErrName},
		{op(api.EAdd, num(1)), api.ErrRank}, {op(api.EAdd), api.ErrRank}, {op(api.EIf, less, num(1)), api.ErrRank}, {op(api.ENeg, num(1), num(1)), api.ErrRank}, {op(api.CNot), api.ErrRank}, {with(num(1), func(e *api.Expr) { e.Args = []api.Expr{num(1)} }), api.ErrRank}, {with(idx(i), func(e *api.Expr) { e.Args = []api.Expr{num(1)} }), api.ErrRank}, {with(read("a"), func(e *api.Expr) { e.Args = []api.Expr{num(1)} }), api.ErrRank}, {cast(api.Type{}, num(1)), api.ErrType},
		{read("a", make([]api.Index, 7)...), api.ErrRank}, {read("a", gather("t", seven...)), api.ErrRank}, {with(cast(api.Type{}, num(1)), func(e *api.Expr) { e.Args = nil }), api.ErrRank}, {op(api.CLt, less), api.ErrRank},
		{op(api.EIf, num(1), num(1), num(1)), api.ErrType}, {op(api.EIf, less, less, num(1)), api.ErrType}, {op(api.EIf, less, num(1), less), api.ErrType}, {op(api.CAnd, less, num(1)), api.ErrType}, {op(api.COr, num(1), less), api.ErrType}, {op(api.CNot, num(1)), api.ErrType}, {op(api.CEq, less, less), api.ErrType}, {op(api.EAdd, num(1), less), api.ErrType}, {op(api.ENeg, less), api.ErrType}, {cast(kint, less), api.ErrType}, {op(api.EMin, less, badIdx), api.ErrType},
		{api.Expr{Op: api.EVal}, api.ErrType}, {api.Expr{Op: api.EVal, Type: api.Type{Kind: api.KFix}, Val: api.Val{N: 1, D: 1}}, api.ErrType}, {api.Expr{Op: api.EVal, Type: kint}, api.ErrArg}, {api.Expr{Op: api.EVal, Type: kint, Val: api.Val{N: 1, D: 2}}, api.ErrArg}, {api.Expr{Op: api.EVal, Type: kfrac, Val: api.Val{N: 2, D: 4}}, api.ErrArg},
		{badIdx, api.ErrArg}, {read("a", at(form(0, "j", 1, "i", 1))), api.ErrArg}, {read("a", gather("t", form(0, "max", 1))), api.ErrArg},
		// The first invalid node in preorder decides.
		{op(api.EAdd, badIdx, read("")), api.ErrArg}, {op(api.EAdd, read(""), badIdx), api.ErrName}, {op(api.EAdd, op(api.EAdd, num(1), op(api.ENeg)), read("")), api.ErrRank}, {op(api.ENeg, op(api.EAdd)), api.ErrRank},
	} {
		if err := expr.Validate(x.e); err != x.err {
			t.Errorf("case %d: Validate(%v) = %v; want %v", k, x.e, err, x.err)
		}
	}
}

func TestQueries(t *testing.T) {
	for _, x := range []struct {
		e           api.Expr
		size, depth int
		cond        bool
		reads, vars []string
	}{
		{one, 3, 2, false, []string{"a"}, []string{"i"}}, {rich, 27, 5, false, []string{"a", "b", "c", "t"}, []string{"i", "j", "k"}}, {less, 3, 2, true, nil, []string{"i"}}, {api.Expr{}, 1, 1, false, nil, nil}, {chain(60), 61, 41, false, nil, nil}, {chain(39), 40, 40, false, nil, nil}, {chain(40), 41, 41, false, nil, nil}, {wide(2000), 2000, 12, false, nil, nil}, {wide(2001), 2001, 11, false, nil, nil}, {wide(9999), 2001, 15, false, nil, nil},
		{op(api.CNot), 1, 1, true, nil, nil}, {op(api.CLt), 1, 1, true, nil, nil}, {op(api.ECast), 1, 1, false, nil, nil}, {op(19), 1, 1, false, nil, nil},
		{api.Expr{Op: 77, Name: "q", Lin: form(0, "z", 0), Idx: []api.Index{gather("t", form(0, "", 1)), {At: []api.Lin{form(0, "z", 1)}}}}, 1, 1, false, []string{"t"}, []string{"", "z"}}, {read("", at(i), gather("")), 1, 1, false, []string{""}, []string{"i"}},
	} {
		if got := expr.Size(x.e); got != x.size {
			t.Errorf("Size = %d; want %d", got, x.size)
		}
		if got := expr.Depth(x.e); got != x.depth && x.size < 2000 || got < 10 && x.size >= 2000 {
			t.Errorf("Depth = %d; want %d", got, x.depth)
		}
		if got := expr.IsCondition(x.e); got != x.cond {
			t.Errorf("IsCondition(%v) = %v", x.e, got)
		}
		if got := expr.Reads(x.e); !slices.Equal(got, x.reads) {
			t.Errorf("Reads = %v; want %v", got, x.reads)
		}
		if got := expr.IndexNames(x.e); !slices.Equal(got, x.vars) {
			t.Errorf("IndexNames = %v; want %v", got, x.vars)
		}
	}
	for o := -1; o < 25; o++ {
		if expr.IsCondition(op(o)) != (o >= api.CLt && o <= api.CNot) {
			t.Errorf("IsCondition of operator %d", o)
		}
	}
}

func TestCompare(t *testing.T) {
	fix := api.Type{Kind: 5, Bits: 5, Frac: 5, Round: 5, Over: 5}
	base := api.Expr{Op: 5, Name: "m", Val: api.Val{N: 5, D: 5}, Type: fix, Lin: form(5, "m", 5), Idx: []api.Index{{From: "m", Lin: form(5), At: []api.Lin{form(5), form(5)}}, at(form(5))}, Args: []api.Expr{num(5), num(5)}}
	// Each pair makes one field greater and all later ones less.
	raise := []func(e *api.Expr, by int64){
		func(e *api.Expr, by int64) { e.Op += int(by) },
		func(e *api.Expr, by int64) { e.Name = string(rune('m' + by)) },
		func(e *api.Expr, by int64) { e.Val.N += by },
		func(e *api.Expr, by int64) { e.Val.D += by },
		func(e *api.Expr, by int64) { e.Type.Kind += int(by) },
		func(e *api.Expr, by int64) { e.Type.Bits += int(by) },
		func(e *api.Expr, by int64) { e.Type.Frac += int(by) },
		func(e *api.Expr, by int64) { e.Type.Round += int(by) },
		func(e *api.Expr, by int64) { e.Type.Over += int(by) },
		func(e *api.Expr, by int64) { e.Lin.L[0].By += by },
		func(e *api.Expr, by int64) { e.Lin.K += by },
		func(e *api.Expr, by int64) {
			if by > 0 {
				e.Idx = append(e.Idx, api.Index{})
			} else {
				e.Idx = e.Idx[:1]
			}
		},
		func(e *api.Expr, by int64) { e.Idx[0].From = string(rune('m' + by)) },
		func(e *api.Expr, by int64) { e.Idx[0].Lin.K += by },
		func(e *api.Expr, by int64) {
			if by > 0 {
				e.Idx[0].At = append(e.Idx[0].At, api.Lin{})
			} else {
				e.Idx[0].At = e.Idx[0].At[:1]
			}
		},
		func(e *api.Expr, by int64) { e.Idx[0].At[0].K += by },
		func(e *api.Expr, by int64) {
			if by > 0 {
				e.Args = append(e.Args, api.Expr{})
			} else {
				e.Args = e.Args[:1]
			}
		},
		func(e *api.Expr, by int64) { e.Args[0].Val.N += by },
	}
	for k, first := range raise {
		greater, less := expr.Copy(base), expr.Copy(base)
		for _, f := range raise[k+1:] {
			f(&greater, -1)
			f(&less, 1)
		}
		first(&greater, 1)
		first(&less, -1)
		for _, x := range []struct {
			a, b api.Expr
			want int
		}{{greater, base, 1}, {base, greater, -1}, {less, base, -1}, {base, less, 1}, {greater, less, 1}, {less, greater, -1}, {greater, expr.Copy(greater), 0}} {
			if got := expr.Compare(x.a, x.b); got != x.want || expr.Same(x.a, x.b) != (x.want == 0) {
				t.Errorf("difference %d: Compare = %d; want %d", k, got, x.want)
			}
		}
	}
	if !expr.Same(api.Expr{}, api.Expr{Args: []api.Expr{}, Idx: []api.Index{}, Lin: api.Lin{L: []api.Mono{}}}) {
		t.Error("nil and empty lists are equal")
	}
}

func TestSubstitute(t *testing.T) {
	to := form(1, "j", 1)
	got, err := expr.Substitute(one, "i", to)
	if err != api.OK || !expr.Same(got, op(api.EAdd, read("a", at(to), at(form(2))), num(3))) {
		t.Error(got, err)
	}
	got, err = expr.Substitute(rich, "j", form(4, "q", 1))
	if err != api.OK || slices.Contains(expr.IndexNames(got), "j") || !lin.Same(got.Args[1].Args[0].Idx[0].At[1], form(9, "q", 2)) || !lin.Same(got.Args[1].Args[0].Idx[1].Lin, form(4, "q", 1)) {
		t.Error(got, err)
	}
	if got, err = expr.Substitute(rich, "j", lin.Var("j")); err != api.OK || !expr.Same(got, rich) {
		t.Error(got, err)
	}
	for _, x := range []struct {
		e    api.Expr
		name string
		to   api.Lin
		err  api.Errno
	}{
		{num(1), "sum", to, api.ErrArg}, {num(1), "i", form(0, "i", 0), api.ErrArg}, {idx(form(0, "z", 0)), "i", to, api.ErrArg}, {read("a", gather("t", form(0, "z", 0))), "i", to, api.ErrArg}, {op(api.EAdd, num(1), read("a", at(form(0, "z", 0)))), "i", to, api.ErrArg},
		{idx(form(0, "i", 2)), "i", form(math.MaxInt64), api.ErrRange}, {op(api.EAdd, idx(form(0, "i", 2)), idx(form(0, "z", 0))), "i", form(math.MaxInt64), api.ErrRange}, {op(api.EAdd, idx(form(0, "z", 0)), idx(form(0, "i", 2))), "i", form(math.MaxInt64), api.ErrArg},
		{read("a", at(form(0, "i", 2)), gather("t", form(0, "z", 0))), "i", form(math.MaxInt64), api.ErrRange}, {read("a", gather("t", form(0, "z", 0)), at(form(0, "i", 2))), "i", form(math.MaxInt64), api.ErrArg},
	} {
		if got, err := expr.Substitute(x.e, x.name, x.to); err != x.err || !expr.Same(got, api.Expr{}) {
			t.Errorf("Substitute(%v, %s, %v) = %v, %v", x.e, x.name, x.to, got, err)
		}
	}
}

func TestReplace(t *testing.T) {
	three := num(3)
	for _, x := range []struct{ e, from, to, want api.Expr }{
		{one, three, num(4), op(api.EAdd, read("a", at(i), at(form(2))), num(4))}, {one, one, three, three}, {one, num(9), three, one},
		{op(api.EAdd, three, op(api.ENeg, three)), three, op(api.EAdd, three, three), op(api.EAdd, op(api.EAdd, three, three), op(api.ENeg, op(api.EAdd, three, three)))},
		{op(api.ENeg, op(api.ENeg, op(api.ENeg, three))), op(api.ENeg, op(api.ENeg, three)), three, op(api.ENeg, three)},
		{op(api.EAdd, op(api.ENeg, three), three), op(api.ENeg, three), three, op(api.EAdd, three, three)}, {rich, rich, rich, rich}, {rich, num(1), num(1), rich},
	} {
		if got := expr.Replace(x.e, x.from, x.to); !expr.Same(got, x.want) {
			t.Errorf("Replace(%v, %v, %v) = %v", x.e, x.from, x.to, got)
		}
	}
	sum := op(api.EAdd, three, three)
	got := expr.Replace(sum, three, read("a", at(i)))
	got.Args[0].Idx[0].Lin.L[0].By = 99
	if got.Args[1].Idx[0].Lin.L[0].By != 1 || i.L[0].By != 1 {
		t.Error("two replaced nodes share memory")
	}
}

func TestWalkAndCopy(t *testing.T) {
	var want, got []string
	var list func(e api.Expr)
	list = func(e api.Expr) {
		want = append(want, strconv.Itoa(e.Op)+e.Name)
		for _, a := range e.Args {
			list(a)
		}
	}
	list(rich)
	before := expr.Copy(rich)
	for n := range expr.Walk(rich) {
		got = append(got, strconv.Itoa(n.Op)+n.Name)
		for k := range n.Args {
			n.Args[k].Op = 99
		}
	}
	if !slices.Equal(got, want) || !expr.Same(rich, before) {
		t.Errorf("Walk = %v; want %v", got, want)
	}
	count := 0
	for range expr.Walk(rich) {
		if count++; count == 4 {
			break
		}
	}
	if count != 4 {
		t.Error("the walk must stop when told")
	}
	c := expr.Copy(rich)
	c.Args[1].Args[0].Idx[0].At[0].L[0].Name = "z"
	c.Args[0].Args[0].Op = 99
	if !expr.Same(rich, before) || expr.Same(c, rich) {
		t.Error("Copy shares memory")
	}
}
