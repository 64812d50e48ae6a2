package value_test

import (
	"math"
	"testing"

	"brocade/api"
	"brocade/fixed"
	"brocade/frac"
	"brocade/value"
)

var (
	kfrac = api.Type{Kind: api.KFrac}
	kint  = api.Type{Kind: api.KInt}
	kfix  = api.Type{Kind: api.KFix, Bits: 8, Frac: 4, Round: api.REven, Over: api.OSat}
	wrap  = api.Type{Kind: api.KFix, Bits: 4, Frac: 1, Round: api.RFloor, Over: api.OWrap}
	tiny  = api.Type{Kind: api.KFix, Bits: 4, Frac: 3, Round: api.RFloor, Over: api.OWrap}
)

func v(n, d int64) api.Val { return api.Val{N: n, D: d} }

func raw(n int64) api.Val { return v(n, 1) }

var valid = []api.Type{kfrac, kint, kfix, wrap, tiny}

var broken = []api.Type{{}, {Kind: 4}, {Kind: -1}, {Kind: api.KFrac, Bits: 8}, {Kind: api.KFrac, Frac: 1}, {Kind: api.KInt, Round: 1}, {Kind: api.KInt, Over: 1}, {Kind: api.KFix}, {Kind: api.KFix, Bits: 1, Round: 1, Over: 1}, {Kind: api.KFix, Bits: 8, Frac: 31, Round: 1, Over: 1}, {Kind: api.KFix, Bits: 8, Round: 5, Over: 1}, {Kind: api.KFix, Bits: 8, Round: 1, Over: 3}}

func samples(t api.Type) []api.Val {
	switch t.Kind {
	case api.KFrac:
		return []api.Val{v(0, 1), v(1, 2), v(-1, 2), v(1, 3), v(-7, 3), v(5, 1), v(api.MaxNum, 1), v(-1, api.MaxNum)}
	case api.KInt:
		return []api.Val{raw(0), raw(1), raw(-1), raw(2), raw(-7), raw(65536), raw(api.MaxNum), raw(-api.MaxNum)}
	}
	var l []api.Val
	for n := int64(-1) << (t.Bits - 1); n < 1<<(t.Bits-1); n += 1 + int64(t.Bits)/8*6 {
		l = append(l, raw(n))
	}
	return append(l, raw(1<<(t.Bits-1)-1))
}

func wrong(t api.Type) []api.Val {
	l := []api.Val{{}, v(1, 0), v(1, -1), v(2, 4), raw(math.MinInt64), raw(math.MaxInt64)}
	switch t.Kind {
	case api.KFrac:
		return append(l, raw(1<<31), raw(-1<<31), v(1, 1<<31))
	case api.KInt:
		return append(l, v(1, 2), raw(1<<31), raw(-1<<31))
	}
	return append(l, v(1, 2), raw(1<<(t.Bits-1)), raw(-1<<(t.Bits-1)-1))
}

func TestTypes(t *testing.T) {
	for _, x := range valid {
		if value.ValidateType(x) != api.OK || value.Zero(x) != raw(0) {
			t.Errorf("%v must be valid", x)
		}
		for _, a := range samples(x) {
			if !value.Valid(x, a) {
				t.Errorf("%v: %v must be valid", x, a)
			}
		}
		for _, a := range wrong(x) {
			if value.Valid(x, a) || value.Format(x, a) != "" {
				t.Errorf("%v: %v must be invalid", x, a)
			}
			for _, b := range samples(x) {
				if value.Compare(x, a, b) != 0 || value.Compare(x, b, a) != 0 {
					t.Errorf("%v: Compare with %v", x, a)
				}
			}
		}
	}
	for _, x := range broken {
		one, err := value.One(x)
		sum, err2 := value.Reduce(api.FSum, x)
		p, err3 := value.Parse(x, "?")
		id, found := value.Identity(api.FSum, x)
		if value.ValidateType(x) != api.ErrType || value.Valid(x, raw(0)) || value.Zero(x) != (api.Val{}) || one != (api.Val{}) || err != api.ErrType || sum != (api.Val{}) || err2 != api.ErrType || p != (api.Val{}) || err3 != api.ErrType || id != (api.Val{}) || found || value.Compare(x, raw(0), raw(1)) != 0 || value.Reorderable(api.FMin, x) || value.Format(x, raw(0)) != "" {
			t.Errorf("%v must be invalid", x)
		}
	}
}

func TestOne(t *testing.T) {
	for _, x := range []struct {
		t    api.Type
		want api.Val
		err  api.Errno
	}{{kfrac, raw(1), api.OK}, {kint, raw(1), api.OK}, {kfix, raw(16), api.OK}, {wrap, raw(2), api.OK}, {tiny, api.Val{}, api.ErrRange}} {
		if got, err := value.One(x.t); got != x.want || err != x.err {
			t.Errorf("One(%v) = %v, %v", x.t, got, err)
		}
	}
}

func TestApplyErrors(t *testing.T) {
	for _, op := range []int{-1, 0, api.ERead, api.EIf, api.ECast, api.CLt, 99} {
		if got, err := value.Apply(op, api.Type{}, api.Val{}, api.Val{}); got != (api.Val{}) || err != api.ErrArg {
			t.Errorf("operator %d: %v, %v", op, got, err)
		}
	}
	for op := api.EAdd; op <= api.EMax; op++ {
		for _, x := range broken {
			if got, err := value.Apply(op, x, api.Val{}, raw(0)); got != (api.Val{}) || err != api.ErrType {
				t.Errorf("type %v: %v, %v", x, got, err)
			}
		}
		for _, x := range valid {
			for _, bad := range wrong(x) {
				if got, err := value.Apply(op, x, bad, raw(0)); got != (api.Val{}) || err != api.ErrArg {
					t.Errorf("%d, %v: %v on the left: %v, %v", op, x, bad, got, err)
				}
				got, err := value.Apply(op, x, raw(0), bad)
				if op == api.ENeg && (got != raw(0) || err != api.OK) || op != api.ENeg && (got != (api.Val{}) || err != api.ErrArg) {
					t.Errorf("%d, %v: %v on the right: %v, %v", op, x, bad, got, err)
				}
			}
		}
	}
}

// intended computes what 4.2 says for each kind.
func intended(op int, t api.Type, a, b api.Val) (api.Val, api.Errno) {
	less := value.Compare(t, a, b) < 0
	switch {
	case op == api.EMin && less || op == api.EMax && !less:
		return a, api.OK
	case op == api.EMin || op == api.EMax:
		return b, api.OK
	case t.Kind == api.KFrac:
		return [](func(a, b api.Val) (api.Val, api.Errno)){frac.Add, frac.Sub, frac.Mul, frac.Div, func(a, _ api.Val) (api.Val, api.Errno) { return frac.Neg(a), api.OK }}[op-api.EAdd](a, b)
	case t.Kind == api.KFix:
		return [](func(t api.Type, a, b api.Val) (api.Val, api.Errno)){fixed.Add, fixed.Sub, fixed.Mul, fixed.Div, func(t api.Type, a, _ api.Val) (api.Val, api.Errno) { return fixed.Neg(t, a) }}[op-api.EAdd](t, a, b)
	}
	if op == api.EDiv && b.N == 0 {
		return api.Val{}, api.ErrDivide
	}
	n := int64(0)
	switch op {
	case api.EAdd:
		n = a.N + b.N
	case api.ESub:
		n = a.N - b.N
	case api.EMul:
		n = a.N * b.N
	case api.EDiv:
		n = int64(math.Floor(float64(a.N) / float64(b.N)))
	case api.ENeg:
		n = -a.N
	}
	if n > api.MaxNum || n < -api.MaxNum {
		return api.Val{}, api.ErrRange
	}
	return raw(n), api.OK
}

func TestApply(t *testing.T) {
	for _, x := range valid {
		for _, a := range samples(x) {
			for _, b := range samples(x) {
				for op := api.EAdd; op <= api.EMax; op++ {
					got, err := value.Apply(op, x, a, b)
					want, code := intended(op, x, a, b)
					if got != want || err != code || err == api.OK && !value.Valid(x, got) {
						t.Errorf("Apply(%d, %v, %v, %v) = %v, %v; want %v, %v", op, x, a, b, got, err, want, code)
					}
				}
			}
		}
	}
}

func TestCompare(t *testing.T) {
	for _, x := range []struct {
		t    api.Type
		a, b api.Val
		want int
	}{{kfrac, v(1, 2), v(1, 3), 1}, {kfrac, v(-1, 2), v(-1, 3), -1}, {kfrac, v(2, 3), v(2, 3), 0}, {kint, raw(3), raw(4), -1}, {kint, raw(-3), raw(-4), 1}, {kfix, raw(7), raw(7), 0}, {kfix, raw(-128), raw(127), -1}, {kfix, raw(3), raw(2), 1}} {
		if got := value.Compare(x.t, x.a, x.b); got != x.want {
			t.Errorf("Compare(%v, %v, %v) = %d", x.t, x.a, x.b, got)
		}
	}
}

func TestCast(t *testing.T) {
	for _, x := range []struct {
		from, to api.Type
		v, want  api.Val
	}{
		{kfrac, kint, v(-7, 3), raw(-3)}, {kfrac, kint, v(7, 3), raw(2)}, {kfrac, kfix, v(1, 3), raw(5)}, {kfrac, kfix, raw(1000), raw(127)}, {kfrac, kfix, raw(-1000), raw(-128)}, {kfrac, wrap, raw(100), raw(-8)},
		{kint, kfrac, raw(-5), raw(-5)}, {kint, kfix, raw(2), raw(32)}, {kint, kfix, raw(9), raw(127)},
		{kfix, kfrac, raw(24), v(3, 2)}, {kfix, kint, raw(-1), raw(-1)}, {kfix, kint, raw(31), raw(1)}, {kfix, wrap, raw(-1), raw(-1)}, {kfix, wrap, raw(127), raw(-1)}, {wrap, kfix, raw(3), raw(24)},
	} {
		if got, err := value.Cast(x.from, x.to, x.v); got != x.want || err != api.OK {
			t.Errorf("Cast(%v, %v, %v) = %v, %v", x.from, x.to, x.v, got, err)
		}
	}
	for _, from := range valid {
		for _, a := range samples(from) {
			if got, err := value.Cast(from, from, a); got != a || err != api.OK {
				t.Errorf("%v: %v is cast to %v, %v", from, a, got, err)
			}
			for _, to := range valid {
				if got, err := value.Cast(from, to, a); err != api.OK || !value.Valid(to, got) {
					t.Errorf("Cast(%v, %v, %v) = %v, %v", from, to, a, got, err)
				}
			}
		}
		for _, bad := range wrong(from) {
			if got, err := value.Cast(from, kint, bad); got != (api.Val{}) || err != api.ErrArg {
				t.Errorf("Cast of %v: %v, %v", bad, got, err)
			}
		}
		for _, to := range broken {
			if got, err := value.Cast(from, to, api.Val{}); got != (api.Val{}) || err != api.ErrType {
				t.Errorf("Cast to %v: %v, %v", to, got, err)
			}
			if got, err := value.Cast(to, from, api.Val{}); got != (api.Val{}) || err != api.ErrType {
				t.Errorf("Cast from %v: %v, %v", to, got, err)
			}
		}
	}
}

func TestIdentity(t *testing.T) {
	for _, x := range []struct {
		fold  int
		t     api.Type
		want  api.Val
		found bool
	}{{api.FSum, kfix, raw(0), true}, {api.FScan, kfrac, raw(0), true}, {api.FProd, kfrac, raw(1), true}, {api.FProd, kint, raw(1), true}, {api.FProd, kfix, raw(16), true}, {api.FProd, tiny, api.Val{}, false}, {api.FMin, kint, api.Val{}, false}, {api.FMax, kfix, api.Val{}, false}, {api.FNone, kint, api.Val{}, false}, {9, kint, api.Val{}, false}, {-1, kint, api.Val{}, false}} {
		got, found := value.Identity(x.fold, x.t)
		if got != x.want || found != x.found {
			t.Errorf("Identity(%d, %v) = %v, %v", x.fold, x.t, got, found)
		}
		sum, err := value.Reduce(x.fold, x.t)
		if x.found && (sum != x.want || err != api.OK) || !x.found && (sum != (api.Val{}) || err != api.ErrArg) {
			t.Errorf("empty Reduce(%d, %v) = %v, %v", x.fold, x.t, sum, err)
		}
	}
	for fold := -1; fold <= 6; fold++ {
		for _, x := range valid {
			want := fold == api.FMin || fold == api.FMax || (fold == api.FSum || fold == api.FProd) && x.Kind != api.KFix
			if value.Reorderable(fold, x) != want {
				t.Errorf("Reorderable(%d, %v)", fold, x)
			}
		}
	}
}

func TestReduce(t *testing.T) {
	for _, x := range []struct {
		fold int
		t    api.Type
		l    []api.Val
		want api.Val
		err  api.Errno
	}{
		{api.FSum, kfrac, []api.Val{v(1, 2), v(1, 3), v(1, 6)}, raw(1), api.OK},
		{api.FScan, kint, []api.Val{raw(1), raw(2), raw(3)}, raw(6), api.OK},
		{api.FProd, kint, []api.Val{raw(2), raw(-3), raw(4)}, raw(-24), api.OK},
		{api.FMin, kfrac, []api.Val{v(1, 2), v(-1, 3), v(1, 6)}, v(-1, 3), api.OK},
		{api.FMax, kfix, []api.Val{raw(1), raw(9), raw(-3)}, raw(9), api.OK},
		{api.FSum, kfix, []api.Val{raw(120), raw(20), raw(-30)}, raw(97), api.OK},
		{api.FSum, kfix, []api.Val{raw(-30), raw(120), raw(20)}, raw(110), api.OK},
		{api.FProd, kfix, []api.Val{raw(24), raw(24)}, raw(36), api.OK},
		{api.FMax, kint, []api.Val{raw(7)}, raw(7), api.OK},
		{api.FSum, kint, []api.Val{raw(api.MaxNum), raw(1), raw(-1)}, api.Val{}, api.ErrRange},
		{api.FProd, kfrac, []api.Val{raw(65536), raw(65536)}, api.Val{}, api.ErrRange},
		{api.FSum, kint, []api.Val{raw(api.MaxNum), raw(1), v(1, 2)}, api.Val{}, api.ErrArg},
		{api.FNone, api.Type{}, nil, api.Val{}, api.ErrArg},
		{6, kint, []api.Val{raw(1)}, api.Val{}, api.ErrArg},
		{api.FMin, api.Type{}, []api.Val{{}}, api.Val{}, api.ErrType},
	} {
		if got, err := value.Reduce(x.fold, x.t, x.l...); got != x.want || err != x.err {
			t.Errorf("Reduce(%d, %v, %v) = %v, %v", x.fold, x.t, x.l, got, err)
		}
	}
	for _, x := range valid {
		l := samples(x)
		for fold := api.FSum; fold <= api.FMax; fold++ {
			a, b, c := l[1], l[2], l[3]
			one, err := value.Reduce(fold, x, a, b, c)
			for _, p := range [][]api.Val{{a, c, b}, {b, a, c}, {c, b, a}} {
				two, err2 := value.Reduce(fold, x, p...)
				if value.Reorderable(fold, x) && err == api.OK && err2 == api.OK && one != two {
					t.Errorf("%v: fold %d of %v depends on the order", x, fold, p)
				}
			}
		}
	}
}

func TestText(t *testing.T) {
	for _, x := range valid {
		for _, a := range samples(x) {
			s := value.Format(x, a)
			if got, err := value.Parse(x, s); s == "" || got != a || err != api.OK {
				t.Errorf("%v: %v is written %q and read %v, %v", x, a, s, got, err)
			}
		}
	}
	if s := value.Format(kfix, raw(24)); s != "3/2" {
		t.Error(s)
	}
	for _, x := range []struct {
		t   api.Type
		s   string
		err api.Errno
	}{{kfix, "1/3", api.ErrSyntax}, {kfix, "1/32", api.ErrSyntax}, {kfix, "8", api.ErrRange}, {kfix, "-129/16", api.ErrRange}, {kfix, "100/3", api.ErrSyntax}, {kfix, "2/4", api.ErrSyntax}, {kfix, "99999999999", api.ErrRange}, {kint, "1/2", api.ErrSyntax}, {kint, "2147483648", api.ErrRange}, {kint, "x", api.ErrSyntax}, {kfrac, "2/4", api.ErrSyntax}, {kfrac, "", api.ErrSyntax}, {api.Type{}, "1", api.ErrType}} {
		if got, err := value.Parse(x.t, x.s); got != (api.Val{}) || err != x.err {
			t.Errorf("Parse(%v, %q) = %v, %v", x.t, x.s, got, err)
		}
	}
}
