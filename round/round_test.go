package round_test

import (
	"math"
	"math/big"
	"testing"

	"brocade/api"
	"brocade/round"
)

var modes = []int{api.RFloor, api.RCeil, api.RTrunc, api.REven}

// exact rounds by the definition of the mode, without limits.
func exact(n, d *big.Int, how int) *big.Int {
	if d.Sign() < 0 {
		n, d = new(big.Int).Neg(n), new(big.Int).Neg(d)
	}
	q, r := new(big.Int).DivMod(n, d, new(big.Int))
	if r.Sign() == 0 {
		return q
	}
	up := false
	switch how {
	case api.RCeil:
		up = true
	case api.RTrunc:
		up = n.Sign() < 0
	case api.REven:
		c := new(big.Int).Lsh(r, 1).Cmp(d)
		up = c > 0 || c == 0 && q.Bit(0) == 1
	}
	if up {
		q.Add(q, big.NewInt(1))
	}
	return q
}

var numbers = []int64{0, 1, -1, 2, -2, 3, -3, 4, 5, -5, 6, 7, -7, 8, 10, -10, 1 << 31, 1<<31 - 1, -1 << 31, 1 << 62, -1 << 62, 1<<62 + 1, math.MaxInt64, math.MaxInt64 - 1, math.MinInt64, math.MinInt64 + 1}

func TestDivide(t *testing.T) {
	for _, n := range numbers {
		for _, d := range numbers {
			for _, how := range modes {
				got, err := round.Divide(n, d, how)
				if d == 0 {
					if got != 0 || err != api.ErrDivide {
						t.Errorf("Divide(%d, 0, %d) = %d, %v", n, how, got, err)
					}
					continue
				}
				want := exact(big.NewInt(n), big.NewInt(d), how)
				if !want.IsInt64() {
					if got != 0 || err != api.ErrRange {
						t.Errorf("Divide(%d, %d, %d) = %d, %v", n, d, how, got, err)
					}
				} else if got != want.Int64() || err != api.OK {
					t.Errorf("Divide(%d, %d, %d) = %d, %v; want %v", n, d, how, got, err, want)
				}
			}
		}
	}
	for _, how := range []int{-1, 0, 5, math.MaxInt, math.MinInt} {
		for _, d := range []int64{0, -1, 3} {
			if got, err := round.Divide(math.MinInt64, d, how); got != 0 || err != api.ErrArg {
				t.Errorf("mode %d: %d, %v", how, got, err)
			}
		}
	}
}

var fractions = []api.Val{{N: 0, D: 1}, {N: 1, D: 3}, {N: -1, D: 3}, {N: 1, D: 2}, {N: -1, D: 2}, {N: 3, D: 2}, {N: -5, D: 2}, {N: 5, D: 32}, {N: 7, D: 1}, {N: api.MaxNum, D: 1}, {N: -api.MaxNum, D: 1}, {N: 1, D: api.MaxNum}, {N: -1, D: api.MaxNum}, {N: api.MaxNum, D: 1 << 30}, {N: -2147483645, D: 2147483646}, {N: 3, D: 1 << 30}}

func TestQuantize(t *testing.T) {
	for _, a := range fractions {
		for bits := 0; bits <= 30; bits++ {
			for _, how := range modes {
				scaled := new(big.Int).Lsh(big.NewInt(a.N), uint(bits))
				want := exact(scaled, big.NewInt(a.D), how)
				got, err := round.Quantize(a, bits, how)
				if got != want.Int64() || err != api.OK {
					t.Errorf("Quantize(%v, %d, %d) = %d, %v; want %v", a, bits, how, got, err, want)
				}
				checkResidual(t, a, bits, how, got)
			}
		}
	}
	for _, x := range []struct {
		a         api.Val
		bits, how int
	}{{api.Val{N: 2, D: 4}, 3, api.RFloor}, {api.Val{}, 3, api.RFloor}, {api.Val{N: 1, D: -1}, 3, api.RFloor}, {api.Val{N: 1 << 31, D: 1}, 0, api.RFloor}, {api.Val{N: 1, D: 2}, -1, api.RFloor}, {api.Val{N: 1, D: 2}, 31, api.RFloor}, {api.Val{N: 1, D: 2}, 3, 0}, {api.Val{N: 1, D: 2}, 3, 5}} {
		if got, err := round.Quantize(x.a, x.bits, x.how); got != 0 || err != api.ErrArg {
			t.Errorf("Quantize(%v) = %d, %v", x, got, err)
		}
		if got, err := round.Residual(x.a, x.bits, x.how); got != (api.Val{}) || err != api.ErrArg {
			t.Errorf("Residual(%v) = %v, %v", x, got, err)
		}
	}
}

// checkResidual compares with the exact error and holds the bounds of P2.7.
func checkResidual(t *testing.T, a api.Val, bits, how int, q int64) {
	t.Helper()
	step := new(big.Rat).SetFrac(big.NewInt(1), new(big.Int).Lsh(big.NewInt(1), uint(bits)))
	want := new(big.Rat).Mul(new(big.Rat).SetInt64(q), step)
	want.Sub(big.NewRat(a.N, a.D), want)
	got, err := round.Residual(a, bits, how)
	limit := big.NewInt(api.MaxNum)
	if want.Num().CmpAbs(limit) > 0 || want.Denom().Cmp(limit) > 0 {
		if got != (api.Val{}) || err != api.ErrRange {
			t.Errorf("Residual(%v, %d, %d) = %v, %v; want ErrRange", a, bits, how, got, err)
		}
		return
	}
	if got.D == 0 || err != api.OK || got.N != want.Num().Int64() || got.D != want.Denom().Int64() {
		t.Errorf("Residual(%v, %d, %d) = %v, %v; want %v", a, bits, how, got, err, want)
		return
	}
	r := big.NewRat(got.N, got.D)
	size := new(big.Rat).Abs(r)
	twice := new(big.Rat).Add(size, size)
	if size.Cmp(step) >= 0 || how == api.RFloor && r.Sign() < 0 || how == api.RCeil && r.Sign() > 0 || how == api.REven && twice.Cmp(step) > 0 {
		t.Errorf("Residual(%v, %d, %d) = %v is too great", a, bits, how, got)
	}
}

func TestWidths(t *testing.T) {
	for bits := -2; bits <= 70; bits++ {
		least, most := int64(0), int64(0)
		if bits >= 2 && bits <= 31 {
			least, most = -1<<(bits-1), 1<<(bits-1)-1
		}
		if round.MinInt(bits) != least || round.MaxInt(bits) != most {
			t.Errorf("width %d: %d, %d", bits, round.MinInt(bits), round.MaxInt(bits))
		}
	}
}

func TestNarrow(t *testing.T) {
	for bits := 2; bits <= 31; bits++ {
		least, most := round.MinInt(bits), round.MaxInt(bits)
		for _, n := range append([]int64{least, least - 1, least + 1, most, most - 1, most + 1, 1 << bits, 200, -129}, numbers...) {
			inside := n >= least && n <= most
			sat, changed := round.Narrow(n, bits, api.OSat)
			if changed == inside || inside && sat != n || !inside && n > 0 && sat != most || !inside && n < 0 && sat != least {
				t.Errorf("Narrow(%d, %d, OSat) = %d, %v", n, bits, sat, changed)
			}
			wrap, changed := round.Narrow(n, bits, api.OWrap)
			if changed == inside || wrap < least || wrap > most || uint64(wrap-n)%(1<<bits) != 0 {
				t.Errorf("Narrow(%d, %d, OWrap) = %d, %v", n, bits, wrap, changed)
			}
		}
	}
	for _, x := range [][2]int{{1, api.OSat}, {32, api.OSat}, {0, api.OWrap}, {-5, api.OWrap}, {8, 0}, {8, 3}} {
		if n, changed := round.Narrow(500, x[0], x[1]); n != 0 || changed {
			t.Errorf("Narrow(500, %v) = %d, %v", x, n, changed)
		}
		if n, changed := round.Narrow(1, x[0], x[1]); n != 0 || changed {
			t.Errorf("Narrow(1, %v) = %d, %v", x, n, changed)
		}
	}
}

func TestModesAgree(t *testing.T) {
	for n := int64(-30); n <= 30; n++ {
		for d := int64(-7); d <= 7; d++ {
			if d == 0 {
				continue
			}
			low, _ := round.Divide(n, d, api.RFloor)
			high, _ := round.Divide(n, d, api.RCeil)
			if high-low > 1 || high < low || n%d == 0 && (low != n/d || high != low) {
				t.Errorf("%d / %d: %d, %d", n, d, low, high)
			}
			for _, how := range modes {
				if q, _ := round.Divide(n, d, how); q != low && q != high {
					t.Errorf("%d / %d: mode %d gives %d", n, d, how, q)
				}
			}
		}
	}
}
