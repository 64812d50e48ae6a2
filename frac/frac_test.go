package frac_test

import (
	"math"
	"math/big"
	"testing"

	"brocade/api"
	"brocade/frac"
)

const top = api.MaxNum

func v(n, d int64) api.Val { return api.Val{N: n, D: d} }

// want is the valid representation of an exact number, or ErrRange.
func want(r *big.Rat) (api.Val, api.Errno) {
	limit := big.NewInt(top)
	if r.Num().CmpAbs(limit) > 0 || r.Denom().Cmp(limit) > 0 {
		return api.Val{}, api.ErrRange
	}
	return v(r.Num().Int64(), r.Denom().Int64()), api.OK
}

func check(t *testing.T, what string, got api.Val, err api.Errno, r *big.Rat) {
	t.Helper()
	w, e := want(r)
	if got != w || err != e {
		t.Errorf("%s = %v, %v; want %v, %v", what, got, err, w, e)
	}
}

var samples = []api.Val{v(0, 1), v(1, 1), v(-1, 1), v(1, 2), v(-2, 3), v(7, 5), v(-9, 4), v(top, 1), v(-top, 1), v(1, top), v(-1, top), v(top, top-1), v(top-1, top), v(46341, 46340), v(3, 1<<30), v(-5, 1<<20), v(6, 7), v(12, 35)}

var invalid = []api.Val{{}, v(1, 0), v(1, -1), v(2, 4), v(0, 2), v(top+1, 1), v(-top-1, 1), v(1, top+1), v(math.MinInt64, 1), v(math.MinInt64, math.MinInt64), v(3, math.MaxInt64)}

func rat(a api.Val) *big.Rat { return big.NewRat(a.N, a.D) }

func TestValidAndNew(t *testing.T) {
	for _, a := range samples {
		if !frac.Valid(a) {
			t.Errorf("%v must be valid", a)
		}
	}
	for _, a := range invalid {
		if frac.Valid(a) {
			t.Errorf("%v must be invalid", a)
		}
	}
	numbers := []int64{0, 1, -1, 2, 6, -4, top, top + 1, -top, -top - 1, 1 << 40, -1 << 40, math.MaxInt64, math.MinInt64, math.MinInt64 + 1, 3 << 61}
	for _, n := range numbers {
		for _, d := range numbers {
			got, err := frac.New(n, d)
			if d == 0 {
				if got != (api.Val{}) || err != api.ErrDivide {
					t.Errorf("New(%d, 0) = %v, %v", n, got, err)
				}
				continue
			}
			check(t, "New", got, err, new(big.Rat).SetFrac(big.NewInt(n), big.NewInt(d)))
		}
	}
}

func TestArithmetic(t *testing.T) {
	for _, a := range samples {
		for _, b := range samples {
			got, err := frac.Add(a, b)
			check(t, "Add", got, err, new(big.Rat).Add(rat(a), rat(b)))
			got, err = frac.Sub(a, b)
			check(t, "Sub", got, err, new(big.Rat).Sub(rat(a), rat(b)))
			got, err = frac.Mul(a, b)
			check(t, "Mul", got, err, new(big.Rat).Mul(rat(a), rat(b)))
			got, err = frac.Div(a, b)
			if b.N == 0 {
				if got != (api.Val{}) || err != api.ErrDivide {
					t.Errorf("Div(%v, 0) = %v, %v", a, got, err)
				}
			} else {
				check(t, "Div", got, err, new(big.Rat).Quo(rat(a), rat(b)))
			}
			if frac.Compare(a, b) != rat(a).Cmp(rat(b)) {
				t.Errorf("Compare(%v, %v)", a, b)
			}
		}
		if frac.Neg(a) != v(-a.N, a.D) {
			t.Errorf("Neg(%v)", a)
		}
	}
}

func TestInvalidOperands(t *testing.T) {
	for _, bad := range invalid {
		for _, f := range []func(a, b api.Val) (api.Val, api.Errno){frac.Add, frac.Sub, frac.Mul, frac.Div} {
			for _, good := range []api.Val{v(0, 1), v(1, 2)} {
				if got, err := f(bad, good); got != (api.Val{}) || err != api.ErrArg {
					t.Errorf("%v on the left: %v, %v", bad, got, err)
				}
				if got, err := f(good, bad); got != (api.Val{}) || err != api.ErrArg {
					t.Errorf("%v on the right: %v, %v", bad, got, err)
				}
			}
		}
		if frac.Neg(bad) != (api.Val{}) || frac.Floor(bad) != 0 || frac.Ceil(bad) != 0 || frac.Format(bad) != "" {
			t.Errorf("%v is not a number", bad)
		}
		if got, err := frac.Sum(v(1, 2), bad); got != (api.Val{}) || err != api.ErrArg {
			t.Errorf("Sum with %v: %v, %v", bad, got, err)
		}
	}
	// The invalid operand is told even where the sum before it does not fit.
	if _, err := frac.Sum(v(top, 1), v(top, 1), v(2, 4)); err != api.ErrArg {
		t.Error(err)
	}
	if _, err := frac.Div(v(2, 4), v(0, 1)); err != api.ErrArg {
		t.Error(err)
	}
}

func TestCompareInvalid(t *testing.T) {
	for _, x := range []struct {
		a, b api.Val
		want int
	}{{v(2, 4), v(1, 2), 1}, {v(1, 2), v(2, 4), -1}, {v(1, 0), v(1, 2), -1}, {v(1, 2), v(1, 0), 1}, {v(2, 4), v(2, 4), 0}, {v(2, 4), v(3, 1), -1}, {v(1, 4), v(1, -4), 1}} {
		if got := frac.Compare(x.a, x.b); got != x.want {
			t.Errorf("Compare(%v, %v) = %d", x.a, x.b, got)
		}
	}
}

func TestFloorCeil(t *testing.T) {
	for _, x := range []struct {
		a           api.Val
		floor, ceil int64
	}{{v(-3, 2), -2, -1}, {v(3, 2), 1, 2}, {v(7, 1), 7, 7}, {v(-7, 1), -7, -7}, {v(0, 1), 0, 0}, {v(1, 9), 0, 1}, {v(-1, 9), -1, 0}, {v(-top, 1), -top, -top}, {v(-top, top-1), -2, -1}, {v(top, top-1), 1, 2}} {
		if frac.Floor(x.a) != x.floor || frac.Ceil(x.a) != x.ceil {
			t.Errorf("%v: %d, %d", x.a, frac.Floor(x.a), frac.Ceil(x.a))
		}
	}
}

func TestSum(t *testing.T) {
	if got, err := frac.Sum(); got != v(0, 1) || err != api.OK {
		t.Error(got, err)
	}
	// A small generator of our own draws lists whose partial sums do not fit.
	seed := uint64(1)
	next := func(n int64) int64 {
		seed = seed*6364136223846793005 + 1442695040888963407
		return int64(seed>>33) % n
	}
	denominators := []int64{1, 2, 3, 4, 8, 9, 27, 1 << 30, 2147483629, 2147483587, 46337 * 46327, 43046721, 30030, 510510, top}
	for range 4000 {
		var l []api.Val
		exact := new(big.Rat)
		for range next(7) {
			a, err := frac.New(next(2*top)-top, denominators[next(int64(len(denominators)))])
			if err != api.OK {
				continue
			}
			l = append(l, a)
			exact.Add(exact, rat(a))
			if next(2) == 0 {
				l = append(l, frac.Neg(a))
				exact.Sub(exact, rat(a))
			}
		}
		for i := len(l) - 1; i > 0; i-- {
			k := next(int64(i + 1))
			l[i], l[k] = l[k], l[i]
		}
		got, err := frac.Sum(l...)
		check(t, "Sum", got, err, exact)
	}
	for _, l := range [][]api.Val{{v(top, 1), v(1, 1)}, {v(-top, 1), v(-1, 2)}, {v(top, 1), v(top, 1), v(top, 1)}, {v(1, 2147483629), v(1, 2147483587)}, {v(top, 1), v(1, 2), v(-1, 3)}, {v(top, 1), v(top, 1), v(top, 1), v(top, 1), v(top, 1), v(top, 1), v(top, 1), v(top, 1), v(8, 1), v(1, 1<<30)}} {
		if got, err := frac.Sum(l...); got != (api.Val{}) || err != api.ErrRange {
			t.Errorf("Sum(%v) = %v, %v", l, got, err)
		}
	}
	if got, err := frac.Sum(v(top, 1), v(top, 1), v(-top, 1)); got != v(top, 1) || err != api.OK {
		t.Error(got, err)
	}
	// The square of a prime is no denominator of the sum.
	if got, err := frac.Sum(v(1, 46337*46337), v(46336, 46337*46337), v(1, 46327)); got != v(46337+46327, 46337*46327) || err != api.OK {
		t.Error(got, err)
	}
	if got, err := frac.Sum(v(-top, 1), v(-top, 1), v(1, 2147483629), v(top, 1), v(-1, 2147483629)); got != v(-top, 1) || err != api.OK {
		t.Error(got, err)
	}
}

func TestSumOfManyDenominators(t *testing.T) {
	var l []api.Val
	for d := int64(2147480000); d < 2147480400; d++ {
		l = append(l, v(1, d), v(-1, d))
	}
	for i := range len(l) / 2 {
		l[i], l[len(l)-1-i] = l[len(l)-1-i], l[i]
	}
	l = append(l, v(1, 3))
	if got, err := frac.Sum(l...); got != v(1, 3) || err != api.OK {
		t.Error(got, err)
	}
}

func TestText(t *testing.T) {
	for _, a := range samples {
		s := frac.Format(a)
		if s != rat(a).RatString() {
			t.Errorf("Format(%v) = %q", a, s)
		}
		if got, err := frac.Parse(s); got != a || err != api.OK {
			t.Errorf("Parse(%q) = %v, %v", s, got, err)
		}
	}
	for s, code := range map[string]api.Errno{
		"": api.ErrSyntax, "-": api.ErrSyntax, "/": api.ErrSyntax, "1/": api.ErrSyntax, "/2": api.ErrSyntax, "+1": api.ErrSyntax, "-0": api.ErrSyntax, "00": api.ErrSyntax, "01": api.ErrSyntax, "007": api.ErrSyntax, "-01": api.ErrSyntax, "--1": api.ErrSyntax,
		"1/0": api.ErrSyntax, "1/1": api.ErrSyntax, "3/1": api.ErrSyntax, "0/2": api.ErrSyntax, "1/02": api.ErrSyntax, "1/-2": api.ErrSyntax, "1/2/3": api.ErrSyntax, "2/4": api.ErrSyntax, " 1": api.ErrSyntax, "1 ": api.ErrSyntax, "1/x": api.ErrSyntax, "x": api.ErrSyntax, "1.5": api.ErrSyntax, "1_0": api.ErrSyntax, "0x1": api.ErrSyntax, "1\n": api.ErrSyntax,
		"2147483648": api.ErrRange, "-2147483648": api.ErrRange, "1/2147483648": api.ErrRange, "99999999999999999999999999": api.ErrRange, "-99999999999999999999999999/7": api.ErrRange, "2147483648/2147483648": api.ErrRange, "2/2147483648": api.ErrRange,
		"99999999999/x": api.ErrSyntax, "99999999999/1": api.ErrSyntax, "99999999999/0": api.ErrSyntax,
	} {
		if got, err := frac.Parse(s); got != (api.Val{}) || err != code {
			t.Errorf("Parse(%q) = %v, %v; want %v", s, got, err, code)
		}
	}
}

func TestLaws(t *testing.T) {
	for _, a := range samples {
		for _, b := range samples {
			sum, err := frac.Add(a, b)
			other, err2 := frac.Add(b, a)
			if sum != other || err != err2 {
				t.Errorf("%v + %v does not commute", a, b)
			}
			if back, e := frac.Sub(sum, b); err == api.OK && (back != a || e != api.OK) {
				t.Errorf("%v + %v - %v = %v", a, b, b, back)
			}
			one, e1 := frac.Mul(a, b)
			two, e2 := frac.Mul(b, a)
			if one != two || e1 != e2 {
				t.Errorf("%v * %v does not commute", a, b)
			}
			s1, e1 := frac.Sum(a, b, v(1, 3))
			s2, e2 := frac.Sum(v(1, 3), b, a)
			if s1 != s2 || e1 != e2 {
				t.Errorf("Sum of %v, %v depends on the order", a, b)
			}
		}
	}
}
