package entail_test

import (
	"math"
	"slices"
	"testing"

	"brocade/api"
	"brocade/constraint"
	"brocade/entail"
)

const (
	least = math.MinInt64
	most  = math.MaxInt64
	full  = api.MaxSteps
)

func form(k int64, l ...any) api.Lin {
	f := api.Lin{K: k}
	for i := 0; i < len(l); i += 2 {
		f.L = append(f.L, api.Mono{Name: l[i].(string), By: int64(l[i+1].(int))})
	}
	return f
}

func ge(k int64, l ...any) api.Constraint { return api.Constraint{Lin: form(k, l...)} }

func eq(k int64, l ...any) api.Constraint { return api.Constraint{Lin: form(k, l...), Eq: true} }

func list(l ...api.Constraint) []api.Constraint { return l }

var bad = ge(0, "i", 0)

func TestImplies(t *testing.T) {
	between := list(ge(-2, "i", 1), ge(9, "i", -1))
	for _, x := range []struct {
		l      []api.Constraint
		c      api.Constraint
		fuel   int
		proved bool
		err    api.Errno
	}{
		{list(ge(-5, "i", 1)), ge(-3, "i", 1), full, true, 0}, {list(ge(-5, "i", 1)), ge(-6, "i", 1), full, false, 0},
		{between, ge(-5, "i", 2), full, false, 0}, {between, ge(-4, "i", 2), full, true, 0}, {between, ge(10, "i", -1), full, true, 0},
		{list(ge(-2, "i", 1), ge(2, "i", -1)), eq(-2, "i", 1), full, true, 0}, {list(ge(-2, "i", 1)), eq(-2, "i", 1), full, false, 0}, {list(ge(2, "i", -1)), eq(-2, "i", 1), full, false, 0},
		{list(eq(0, "i", 1, "j", -1)), eq(0, "i", -2, "j", 2), full, true, 0},
		{nil, ge(0), full, true, 0}, {nil, ge(-1), full, false, 0}, {nil, eq(0), full, true, 0}, {list(ge(-1)), ge(0, "z", 1), full, true, 0},
		{list(bad), ge(0), -1, false, api.ErrArg}, {nil, bad, full, false, api.ErrArg}, {nil, ge(0, "i", least), -1, false, api.ErrRange}, {list(bad), ge(0, "i", least), full, false, api.ErrArg},
		{nil, ge(0), -1, false, api.ErrArg}, {nil, ge(0), full + 1, false, api.ErrArg},
		{make([]api.Constraint, 256), ge(0), full, false, api.ErrLimit}, {make([]api.Constraint, 255), ge(0), full, true, 0},
		{list(eq(least, "i", -1)), ge(0), full, false, api.ErrRange},
	} {
		by, proved, err := entail.Implies(x.l, x.c, x.fuel)
		if proved != x.proved || err != x.err {
			t.Errorf("Implies(%v, %v, %d) = %v, %v, %v", x.l, x.c, x.fuel, by, proved, err)
		}
		if !proved && len(by) != 0 {
			t.Errorf("a certificate %v beside false", by)
		}
		if proved && entail.CheckCertificate(x.l, x.c, by) != api.OK {
			t.Errorf("Implies(%v, %v): the certificate %v is refused", x.l, x.c, by)
		}
	}
}

func TestCheckCertificate(t *testing.T) {
	l := list(ge(-5, "i", 1))
	both := list(ge(-2, "i", 1), ge(2, "i", -1))
	for _, x := range []struct {
		l   []api.Constraint
		c   api.Constraint
		by  []int64
		err api.Errno
	}{
		{l, ge(-3, "i", 1), []int64{1, 1}, 0}, {l, ge(-3, "i", 1), []int64{2, 2}, 0}, {l, ge(-3, "i", 1), []int64{1, 0}, api.ErrUnproved}, {l, ge(-3, "i", 1), []int64{1}, api.ErrUnproved}, {l, ge(-3, "i", 1), []int64{1, 1, 0}, api.ErrUnproved}, {l, ge(-3, "i", 1), nil, api.ErrUnproved},
		{l, ge(-3, "i", 1), []int64{-1, 1}, api.ErrArg}, {l, ge(-6, "i", 1), []int64{1, 1}, api.ErrUnproved},
		{both, eq(-2, "i", 1), []int64{0, 1, 1, 1, 0, 1}, 0}, {both, eq(-2, "i", 1), []int64{0, 1, 1, 0, 1, 1}, api.ErrUnproved}, {both, eq(-2, "i", 1), []int64{1, 0, 1, 1, 0, 1}, api.ErrUnproved}, {both, eq(-2, "i", 1), []int64{0, 1, 1}, api.ErrUnproved},
		{list(bad), ge(0), nil, api.ErrArg}, {l, bad, nil, api.ErrArg}, {nil, ge(0, "i", least), nil, api.ErrRange},
		{make([]api.Constraint, 256), ge(0), make([]int64, 257), api.ErrLimit}, {make([]api.Constraint, 256), ge(0), nil, api.ErrUnproved},
	} {
		if err := entail.CheckCertificate(x.l, x.c, x.by); err != x.err {
			t.Errorf("CheckCertificate(%v, %v, %v) = %v", x.l, x.c, x.by, err)
		}
	}
}

func TestBounds(t *testing.T) {
	between := list(ge(-2, "i", 1), ge(9, "i", -1))
	const edge = 1 << 40
	for _, x := range []struct {
		l         []api.Constraint
		f         api.Lin
		fuel      int
		low, high int64
		hasLow    bool
		hasHigh   bool
		e1, e2    api.Errno
	}{
		{between, form(1, "i", 2), full, 5, 19, true, true, 0, 0}, {between, form(1, "i", -2), full, -17, -3, true, true, 0, 0}, {between, form(7), full, 7, 7, true, true, 0, 0},
		{list(ge(-2, "i", 1)), form(0, "i", 1), full, 2, 0, true, false, 0, 0}, {list(ge(-2, "i", -1)), form(0, "i", 1), full, 0, -2, false, true, 0, 0}, {nil, form(0, "i", 1), full, 0, 0, false, false, 0, 0},
		{list(ge(-3, "i", 2)), form(0, "i", 1), full, 2, 0, true, false, 0, 0},
		{list(ge(edge, "i", 1), ge(edge, "i", -1)), form(0, "i", 1), full, -edge, edge, true, true, 0, 0}, {list(ge(edge+1, "i", 1), ge(edge+1, "i", -1)), form(0, "i", 1), full, 0, 0, false, false, 0, 0},
		{list(ge(-2*edge, "i", 1), ge(3*edge, "i", -1)), form(0, "i", 1), full, edge, 0, true, false, 0, 0}, {list(ge(-1)), form(0, "i", 1), full, edge, -edge, true, true, 0, 0},
		{list(bad), form(0), full, 0, 0, false, false, api.ErrArg, api.ErrArg}, {nil, form(0, "sum", 1), full, 0, 0, false, false, api.ErrArg, api.ErrArg}, {nil, form(0), -1, 0, 0, false, false, api.ErrArg, api.ErrArg},
		{nil, form(most), full, 0, -edge, false, false, api.ErrRange, 0}, {nil, form(least), full, 0, 0, false, false, 0, api.ErrRange}, {nil, form(0, "i", least), full, 0, 0, false, false, api.ErrRange, api.ErrRange},
	} {
		low, has, err := entail.LowerBound(x.l, x.f, x.fuel)
		if low != x.low || has != x.hasLow || err != x.e1 {
			t.Errorf("LowerBound(%v, %v) = %d, %v, %v", x.l, x.f, low, has, err)
		}
		if x.f.K == most {
			continue
		}
		high, has, err := entail.UpperBound(x.l, x.f, x.fuel)
		if high != x.high || has != x.hasHigh || err != x.e2 {
			t.Errorf("UpperBound(%v, %v) = %d, %v, %v", x.l, x.f, high, has, err)
		}
	}
}

func TestInRange(t *testing.T) {
	l := list(ge(0, "i", 1), ge(-1, "i", -1, "n", 1))
	for _, x := range []struct {
		l       []api.Constraint
		f, size api.Lin
		fuel    int
		want    bool
		err     api.Errno
	}{
		{l, form(0, "i", 1), form(0, "n", 1), full, true, 0}, {l, form(1, "i", 1), form(0, "n", 1), full, false, 0}, {l, form(-1, "i", 1), form(0, "n", 1), full, false, 0}, {l, form(1, "i", 1), form(1, "n", 1), full, true, 0}, {nil, form(0), form(1), full, true, 0}, {nil, form(0), form(0), full, false, 0}, {nil, form(-1), form(9), full, false, 0},
		{list(bad), form(0), form(1), full, false, api.ErrArg}, {l, form(0, "if", 1), form(1), full, false, api.ErrArg}, {l, form(0), form(0, "j", 0), full, false, api.ErrArg}, {l, form(-1), form(0, "j", 0), full, false, api.ErrArg}, {l, form(0), form(1), full + 1, false, api.ErrArg},
		// The second form is only computed if the first proof succeeds.
		{l, form(-1), form(least), full, false, 0}, {l, form(0), form(least), full, false, api.ErrRange}, {l, form(5), form(least + 3), full, false, api.ErrRange}, {l, form(0, "i", least), form(1), full, false, api.ErrRange},
	} {
		if got, err := entail.InRange(x.l, x.f, x.size, x.fuel); got != x.want || err != x.err {
			t.Errorf("InRange(%v, %v, %v) = %v, %v", x.l, x.f, x.size, got, err)
		}
	}
}

// TestSoundness holds P8.6 to P8.8 on random small systems.
func TestSoundness(t *testing.T) {
	seed := uint64(11)
	next := func(n int64) int64 {
		seed = seed*6364136223846793005 + 1442695040888963407
		return int64(seed>>33) % n
	}
	draw := func() api.Constraint {
		c := api.Constraint{Lin: api.Lin{K: next(15) - 7}, Eq: next(5) == 0}
		for _, n := range []string{"i", "j", "k"} {
			if by := next(15) - 7; by != 0 && next(2) == 0 {
				c.Lin.L = append(c.Lin.L, api.Mono{Name: n, By: by})
			}
		}
		return c
	}
	proofs := 0
	for round := range 400 {
		var l []api.Constraint
		for range 1 + next(5) {
			l = append(l, draw())
		}
		for _, c := range l {
			if by, proved, err := entail.Implies(l, c, full); !proved || err != api.OK || entail.CheckCertificate(l, c, by) != api.OK {
				t.Fatalf("%v does not follow from %v: %v", c, l, err)
			}
		}
		c := draw()
		by, proved, err := entail.Implies(l, c, full)
		if err != api.OK || proved && entail.CheckCertificate(l, c, by) != api.OK {
			t.Fatalf("%v, %v: %v, %v", l, c, by, err)
		}
		var low, high int64
		var hasLow, hasHigh bool
		if round%10 == 0 {
			low, hasLow, _ = entail.LowerBound(l, c.Lin, full)
			high, hasHigh, _ = entail.UpperBound(l, c.Lin, full)
		}
		for p := range 729 {
			env := []api.Binding{{Name: "i", Val: int64(p%9 - 4)}, {Name: "j", Val: int64(p/9%9 - 4)}, {Name: "k", Val: int64(p/81 - 4)}}
			if at, _ := constraint.FirstViolated(l, env); at < len(l) {
				continue
			}
			n := c.Lin.K
			for _, m := range c.Lin.L {
				n += m.By * env[slices.Index([]string{"i", "j", "k"}, m.Name)].Val
			}
			if h, _ := constraint.Holds(c, env); proved && !h || hasLow && n < low || hasHigh && n > high {
				t.Fatalf("%v satisfies %v but not %v (%d, %d)", env, l, c, low, high)
			}
		}
		if proved {
			proofs++
		}
	}
	if proofs < 20 {
		t.Errorf("only %d proofs", proofs)
	}
}

func TestNoSharing(t *testing.T) {
	l := make([]api.Constraint, 1, 2)
	l[0] = ge(-5, "i", 1)
	spare := l[:2]
	spare[1] = ge(77)
	entail.Implies(l, ge(-3, "i", 1), full)
	entail.CheckCertificate(l, ge(-3, "i", 1), []int64{1, 1})
	if spare[1].Lin.K != 77 {
		t.Error("the memory behind the argument is changed")
	}
}
