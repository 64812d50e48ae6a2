package fixed_test

import (
	"math"
	"math/big"
	"testing"

	"brocade/api"
	"brocade/fixed"
)

func raw(n int64) api.Val { return api.Val{N: n, D: 1} }

func fix(bits, fraction, how, over int) api.Type {
	return api.Type{Kind: api.KFix, Bits: bits, Frac: fraction, Round: how, Over: over}
}

// types covers all modes for small and for the widest formats.
func types() []api.Type {
	var l []api.Type
	for how := api.RFloor; how <= api.REven; how++ {
		for over := api.OSat; over <= api.OWrap; over++ {
			for _, w := range [][2]int{{2, 0}, {2, 30}, {4, 1}, {5, 3}, {8, 4}, {31, 0}, {31, 30}, {31, 16}} {
				l = append(l, fix(w[0], w[1], how, over))
			}
		}
	}
	return l
}

// samples are all values of small types, and the ends of wide ones.
func samples(t api.Type) []api.Val {
	least, most := int64(-1)<<(t.Bits-1), int64(1)<<(t.Bits-1)-1
	var l []api.Val
	if t.Bits <= 5 {
		for n := least; n <= most; n++ {
			l = append(l, raw(n))
		}
		return l
	}
	for _, n := range []int64{least, least + 1, -77, -16, -3, -1, 0, 1, 2, 3, 24, 100, most - 1, most} {
		if n >= least && n <= most {
			l = append(l, raw(n))
		}
	}
	return l
}

// narrow rounds an exact quotient n/d and brings it into range by the definitions.
func narrow(t api.Type, n, d *big.Int) api.Val {
	if d.Sign() < 0 {
		n, d = new(big.Int).Neg(n), new(big.Int).Neg(d)
	}
	q, r := new(big.Int).DivMod(n, d, new(big.Int))
	twice := new(big.Int).Lsh(r, 1).Cmp(d)
	if r.Sign() != 0 && (t.Round == api.RCeil || t.Round == api.RTrunc && n.Sign() < 0 || t.Round == api.REven && (twice > 0 || twice == 0 && q.Bit(0) == 1)) {
		q.Add(q, big.NewInt(1))
	}
	least, most := big.NewInt(-1<<(t.Bits-1)), big.NewInt(1<<(t.Bits-1)-1)
	if t.Over == api.OSat {
		if q.Cmp(least) < 0 {
			q = least
		}
		if q.Cmp(most) > 0 {
			q = most
		}
		return raw(q.Int64())
	}
	width := new(big.Int).Lsh(big.NewInt(1), uint(t.Bits))
	q.Mod(q, width)
	if q.Cmp(most) > 0 {
		q.Sub(q, width)
	}
	return raw(q.Int64())
}

func TestTypes(t *testing.T) {
	for _, x := range types() {
		if fixed.ValidateType(x) != api.OK {
			t.Errorf("%v must be valid", x)
		}
	}
	bad := []api.Type{{}, {Kind: api.KFrac}, {Kind: api.KInt}, fix(1, 0, 1, 1), fix(32, 0, 1, 1), fix(8, -1, 1, 1), fix(8, 31, 1, 1), fix(8, 0, 0, 1), fix(8, 0, 5, 1), fix(8, 0, 1, 0), fix(8, 0, 1, 3), {Kind: api.KInt, Bits: 8, Round: 1, Over: 1}}
	for _, x := range bad {
		checkBadType(t, x)
	}
}

func checkBadType(t *testing.T, x api.Type) {
	t.Helper()
	half, bad := api.Val{N: 1, D: 2}, api.Val{}
	var codes []api.Errno
	for _, f := range []func(api.Type, api.Val, api.Val) (api.Val, api.Errno){fixed.Add, fixed.Sub, fixed.Mul, fixed.Div} {
		got, err := f(x, bad, raw(0))
		if got != (api.Val{}) {
			t.Errorf("%v: %v", x, got)
		}
		codes = append(codes, err)
	}
	_, e1 := fixed.FromFrac(x, half)
	_, e2 := fixed.ToFrac(x, raw(1))
	_, e3 := fixed.Neg(x, raw(1))
	r, e4 := fixed.Resolution(x)
	for _, e := range append(codes, e1, e2, e3, e4, fixed.ValidateType(x)) {
		if e != api.ErrType {
			t.Errorf("%v: error %v", x, e)
		}
	}
	if fixed.Valid(x, raw(0)) || r != (api.Val{}) {
		t.Errorf("%v has no values", x)
	}
}

func TestValues(t *testing.T) {
	for _, x := range types() {
		least, most := int64(-1)<<(x.Bits-1), int64(1)<<(x.Bits-1)-1
		for _, n := range []int64{least, most, 0, -1, 1} {
			if !fixed.Valid(x, raw(n)) {
				t.Errorf("%v: %d must be a value", x, n)
			}
		}
		for _, v := range []api.Val{raw(least - 1), raw(most + 1), {}, {N: 0, D: 2}, {N: 1, D: -1}, raw(math.MinInt64), raw(math.MaxInt64)} {
			checkBadValue(t, x, v)
		}
	}
}

func checkBadValue(t *testing.T, x api.Type, bad api.Val) {
	t.Helper()
	if fixed.Valid(x, bad) {
		t.Errorf("%v: %v must not be a value", x, bad)
	}
	for _, f := range []func(api.Type, api.Val, api.Val) (api.Val, api.Errno){fixed.Add, fixed.Sub, fixed.Mul, fixed.Div} {
		if got, err := f(x, bad, raw(0)); got != (api.Val{}) || err != api.ErrArg {
			t.Errorf("%v: %v on the left: %v, %v", x, bad, got, err)
		}
		if got, err := f(x, raw(0), bad); got != (api.Val{}) || err != api.ErrArg {
			t.Errorf("%v: %v on the right: %v, %v", x, bad, got, err)
		}
	}
	if got, err := fixed.Neg(x, bad); got != (api.Val{}) || err != api.ErrArg {
		t.Errorf("Neg(%v, %v) = %v, %v", x, bad, got, err)
	}
	if got, err := fixed.ToFrac(x, bad); got != (api.Val{}) || err != api.ErrArg {
		t.Errorf("ToFrac(%v, %v) = %v, %v", x, bad, got, err)
	}
}

func TestConversion(t *testing.T) {
	fractions := []api.Val{{N: 0, D: 1}, {N: 5, D: 4}, {N: -5, D: 4}, {N: 100, D: 1}, {N: -100, D: 1}, {N: 1, D: 3}, {N: -1, D: 3}, {N: 1, D: 32}, {N: 3, D: 32}, {N: -3, D: 32}, {N: api.MaxNum, D: 1}, {N: -api.MaxNum, D: 1}, {N: 1, D: api.MaxNum}, {N: -1, D: api.MaxNum}, {N: 7, D: 2}, {N: 31, D: 4}}
	for _, x := range types() {
		for _, a := range fractions {
			got, err := fixed.FromFrac(x, a)
			want := narrow(x, new(big.Int).Lsh(big.NewInt(a.N), uint(x.Frac)), big.NewInt(a.D))
			if got != want || err != api.OK {
				t.Errorf("FromFrac(%v, %v) = %v, %v; want %v", x, a, got, err, want)
			}
		}
		for _, a := range []api.Val{{N: 2, D: 4}, {}, {N: 1, D: -2}, {N: 1 << 31, D: 1}} {
			if got, err := fixed.FromFrac(x, a); got != (api.Val{}) || err != api.ErrArg {
				t.Errorf("FromFrac(%v, %v) = %v, %v", x, a, got, err)
			}
		}
		for _, v := range samples(x) {
			a, err := fixed.ToFrac(x, v)
			want := big.NewRat(v.N, 1<<x.Frac)
			if err != api.OK || a.N != want.Num().Int64() || a.D != want.Denom().Int64() {
				t.Errorf("ToFrac(%v, %v) = %v, %v", x, v, a, err)
			}
			if back, err := fixed.FromFrac(x, a); back != v || err != api.OK {
				t.Errorf("%v: %v comes back as %v, %v", x, v, back, err)
			}
		}
		if r, err := fixed.Resolution(x); r != (api.Val{N: 1, D: 1 << x.Frac}) || err != api.OK {
			t.Errorf("Resolution(%v) = %v, %v", x, r, err)
		}
	}
}

func TestArithmetic(t *testing.T) {
	for _, x := range types() {
		one := new(big.Int).Lsh(big.NewInt(1), uint(x.Frac))
		for _, a := range samples(x) {
			p := big.NewInt(a.N)
			expect(t, x, "Neg", a, a, narrow(x, new(big.Int).Neg(p), big.NewInt(1)))(fixed.Neg(x, a))
			for _, b := range samples(x) {
				q := big.NewInt(b.N)
				expect(t, x, "Add", a, b, narrow(x, new(big.Int).Add(p, q), big.NewInt(1)))(fixed.Add(x, a, b))
				expect(t, x, "Sub", a, b, narrow(x, new(big.Int).Sub(p, q), big.NewInt(1)))(fixed.Sub(x, a, b))
				expect(t, x, "Mul", a, b, narrow(x, new(big.Int).Mul(p, q), one))(fixed.Mul(x, a, b))
				if b.N == 0 {
					if got, err := fixed.Div(x, a, b); got != (api.Val{}) || err != api.ErrDivide {
						t.Errorf("%v: %v / 0 = %v, %v", x, a, got, err)
					}
					continue
				}
				expect(t, x, "Div", a, b, narrow(x, new(big.Int).Mul(p, one), q))(fixed.Div(x, a, b))
			}
		}
	}
}

func expect(t *testing.T, x api.Type, what string, a, b, want api.Val) func(api.Val, api.Errno) {
	return func(got api.Val, err api.Errno) {
		t.Helper()
		if got != want || err != api.OK {
			t.Errorf("%s(%v, %v, %v) = %v, %v; want %v", what, x, a, b, got, err, want)
		}
	}
}

func TestLaws(t *testing.T) {
	for _, x := range types() {
		l := samples(x)
		for _, a := range l {
			for _, b := range l {
				s1, _ := fixed.Add(x, a, b)
				s2, _ := fixed.Add(x, b, a)
				p1, _ := fixed.Mul(x, a, b)
				p2, _ := fixed.Mul(x, b, a)
				if s1 != s2 || p1 != p2 {
					t.Errorf("%v: %v and %v do not commute", x, a, b)
				}
				if back, _ := fixed.Sub(x, s1, b); x.Over == api.OWrap && back != a {
					t.Errorf("%v: Sub does not undo %v + %v", x, a, b)
				}
			}
		}
	}
}
