package elim_test

import (
	"math"
	"math/big"
	"slices"
	"strconv"
	"strings"
	"testing"

	"brocade/api"
	"brocade/constraint"
	"brocade/elim"
	"brocade/lin"
)

const (
	least = math.MinInt64
	most  = math.MaxInt64
)

func form(k int64, l ...any) api.Lin {
	f := api.Lin{K: k}
	for i := 0; i < len(l); i += 2 {
		f.L = append(f.L, api.Mono{Name: l[i].(string), By: int64(l[i+1].(int))})
	}
	return f
}

func ge(k int64, l ...any) api.Constraint { return api.Constraint{Lin: form(k, l...)} }

func eq(k int64, l ...any) api.Constraint { return api.Constraint{Lin: form(k, l...), Eq: true} }

var bad = ge(0, "i", 0)

func TestCombine(t *testing.T) {
	for _, x := range []struct {
		low, up, want api.Constraint
		name          string
		err           api.Errno
	}{
		{ge(-3, "i", 2), ge(0, "i", -3, "j", 1), ge(-9, "j", 2), "i", 0},
		{ge(-3, "i", 4), ge(1, "i", -6), ge(-7), "i", 0},
		{ge(0, "i", 1), ge(5, "i", -1, "j", 1), ge(5, "j", 1), "i", 0},
		{bad, ge(0, "i", -1), api.Constraint{}, "i", api.ErrArg}, {ge(0, "i", 1, "a", 1), ge(0, "i", -1), api.Constraint{}, "i", api.ErrArg}, {ge(0, "i", 1), ge(0, "i", -1, "a", 1), api.Constraint{}, "i", api.ErrArg}, {ge(0, "i", 1), bad, api.Constraint{}, "i", api.ErrArg},
		{ge(0, "i", 1), ge(0, "i", -1), api.Constraint{}, "", api.ErrArg}, {ge(0, "i", 1), ge(0, "i", -1), api.Constraint{}, "sum", api.ErrArg}, {ge(0, "i", 1), ge(0, "i", -1), api.Constraint{}, "j", api.ErrArg}, {ge(0, "i", 1), ge(0, "j", -1), api.Constraint{}, "i", api.ErrArg}, {ge(0, "j", 1), ge(0, "i", -1), api.Constraint{}, "i", api.ErrArg},
		{eq(0, "i", 1), ge(0, "i", -1), api.Constraint{}, "i", api.ErrArg}, {ge(0, "i", 1), eq(0, "i", -1), api.Constraint{}, "i", api.ErrArg},
		{ge(0, "i", -1), ge(0, "i", -1), api.Constraint{}, "i", api.ErrArg}, {ge(0, "i", 1), ge(0, "i", 1), api.Constraint{}, "i", api.ErrArg}, {ge(0, "i", -1), ge(0, "i", 1), api.Constraint{}, "i", api.ErrArg},
		{ge(0, "i", 1), ge(0, "i", least), api.Constraint{}, "i", api.ErrRange}, {ge(1, "i", 2), ge(3, "i", least), api.Constraint{}, "i", api.ErrRange}, {ge(1, "i", 1<<61), ge(3, "i", -1<<62), ge(5), "i", 0}, {ge(most, "i", 1), ge(0, "i", -2), api.Constraint{}, "i", api.ErrRange},
	} {
		if got, err := elim.Combine(x.low, x.up, x.name); !constraint.Same(got, x.want) || err != x.err {
			t.Errorf("Combine(%v, %v, %s) = %v, %v", x.low, x.up, x.name, got, err)
		}
	}
}

// sameDerived compares the results of Eliminate with the expected multipliers.
func sameDerived(l []api.Constraint, got []api.Derived, by [][]int64) bool {
	return slices.EqualFunc(got, by, func(d api.Derived, b []int64) bool {
		c, err := constraint.Combine(l, b)
		return err == api.OK && slices.Equal(d.By, b) && constraint.Same(d.Constraint, c)
	})
}

func TestEliminate(t *testing.T) {
	for _, x := range []struct {
		l  []api.Constraint
		by [][]int64
	}{
		{[]api.Constraint{ge(-2, "i", 1), ge(0, "i", -1, "j", 1)}, [][]int64{{1, 1}}},
		{[]api.Constraint{eq(0, "i", 1, "j", -2), ge(-5, "i", 1)}, [][]int64{{-1, 1}}},
		{[]api.Constraint{ge(1, "j", 1), ge(-2, "i", 2), ge(7, "i", -3), eq(0, "j", 1), ge(3, "i", 1), ge(9, "i", -4)}, [][]int64{{1, 0, 0, 0, 0, 0}, {0, 0, 0, 1, 0, 0}, {0, 3, 2, 0, 0, 0}, {0, 2, 0, 0, 0, 1}, {0, 0, 1, 0, 3, 0}, {0, 0, 0, 0, 4, 1}}},
		{[]api.Constraint{ge(1, "i", 4), ge(1, "j", 1), eq(3, "i", 6), eq(2, "i", 2), ge(0, "i", -9)}, [][]int64{{3, 0, -2, 0, 0}, {0, 1, 0, 0, 0}, {0, 0, -1, 3, 0}, {0, 0, 3, 0, 2}}},
		{[]api.Constraint{eq(3, "i", -6), ge(1, "i", 4), ge(2, "i", -4)}, [][]int64{{2, 3, 0}, {-2, 0, 3}}},
		{[]api.Constraint{ge(0, "i", 1)}, nil}, {nil, nil}, {[]api.Constraint{ge(5, "j", 2)}, [][]int64{{1}}},
		{[]api.Constraint{eq(0, "i", 1), ge(0, "i", least)}, nil},
	} {
		got, err := elim.Eliminate(x.l, "i")
		if x.by == nil && len(x.l) == 2 {
			if err != api.ErrRange || len(got) != 0 {
				t.Errorf("Eliminate(%v) = %v, %v", x.l, got, err)
			}
			continue
		}
		if err != api.OK || !sameDerived(x.l, got, x.by) {
			t.Errorf("Eliminate(%v) = %v, %v", x.l, got, err)
		}
	}
}

func TestEliminateErrors(t *testing.T) {
	long := make([]api.Constraint, api.MaxConstraints+1)
	long[0] = bad
	var many []api.Constraint
	for k := range 17 {
		many = append(many, ge(int64(k), "i", 1), ge(int64(k), "i", -1))
	}
	for _, x := range []struct {
		l    []api.Constraint
		name string
		err  api.Errno
	}{{long, "i", api.ErrLimit}, {[]api.Constraint{bad}, "j", api.ErrArg}, {[]api.Constraint{ge(0)}, "sum", api.ErrArg}, {many, "i", api.ErrLimit}, {append(many, ge(0, "i", least)), "i", api.ErrLimit}, {[]api.Constraint{ge(0, "i", 1), ge(0, "i", least)}, "i", api.ErrRange}, {[]api.Constraint{ge(most, "i", 1), ge(1, "i", -1)}, "i", api.ErrRange}} {
		if got, err := elim.Eliminate(x.l, x.name); err != x.err || len(got) != 0 {
			t.Errorf("Eliminate(%d constraints, %s) = %v, %v", len(x.l), x.name, got, err)
		}
	}
	if got, err := elim.Eliminate(many[:32], "i"); err != api.OK || len(got) != 256 {
		t.Error(len(got), err)
	}
}

func TestCheckCertificate(t *testing.T) {
	l := []api.Constraint{ge(-1, "i", 2), ge(1, "i", -2)}
	e := []api.Constraint{eq(0, "i", 1), eq(-2, "i", -2)}
	for _, x := range []struct {
		l   []api.Constraint
		by  []int64
		err api.Errno
	}{
		{l, []int64{1, 1}, api.OK}, {l, []int64{2, 2}, api.OK}, {l, []int64{1, 2}, api.ErrUnproved}, {l, []int64{0, 0}, api.ErrUnproved}, {l, []int64{1}, api.ErrArg}, {l, []int64{-1, -1}, api.ErrArg},
		{e, []int64{1, -1}, api.OK}, {e, []int64{-1, 1}, api.OK}, {e, []int64{1, 1}, api.ErrUnproved},
		{[]api.Constraint{ge(-5)}, []int64{1}, api.OK}, {[]api.Constraint{ge(5)}, []int64{1}, api.ErrUnproved}, {[]api.Constraint{eq(5)}, []int64{1}, api.OK}, {[]api.Constraint{eq(5)}, []int64{-1}, api.ErrArg}, {nil, nil, api.ErrUnproved},
		{[]api.Constraint{ge(-1, "i", 1), bad}, []int64{1}, api.ErrArg}, {[]api.Constraint{eq(least, "i", -1)}, nil, api.ErrRange}, {[]api.Constraint{ge(least, "i", 1)}, []int64{2}, api.ErrRange},
		{make([]api.Constraint, 257), nil, api.ErrLimit}, {make([]api.Constraint, 256), make([]int64, 256), api.ErrUnproved},
	} {
		if err := elim.CheckCertificate(x.l, x.by); err != x.err {
			t.Errorf("CheckCertificate(%v, %v) = %v", x.l, x.by, err)
		}
	}
}

func TestInfeasibleErrors(t *testing.T) {
	for _, x := range []struct {
		l    []api.Constraint
		fuel int
		err  api.Errno
	}{{make([]api.Constraint, 257), -1, api.ErrLimit}, {[]api.Constraint{bad}, -1, api.ErrArg}, {[]api.Constraint{eq(least, "i", -1)}, -1, api.ErrRange}, {nil, -1, api.ErrArg}, {nil, api.MaxSteps + 1, api.ErrArg}, {nil, math.MinInt, api.ErrArg}, {nil, 0, api.OK}} {
		if by, found, err := elim.Infeasible(x.l, x.fuel); err != x.err || found || len(by) != 0 {
			t.Errorf("Infeasible(%v, %d) = %v, %v, %v", x.l, x.fuel, by, found, err)
		}
	}
}

// feasible decides the tight forms by exact elimination with fractions of any size,
// without any pruning.
func feasible(l []api.Constraint, names []string) bool {
	type line struct {
		c  []*big.Rat
		eq bool
	}
	var rows []line
	for _, c := range l {
		tight, _, _ := constraint.Tighten(c)
		r := line{eq: tight.Eq}
		for _, n := range names {
			r.c = append(r.c, new(big.Rat).SetInt64(lin.Coeff(tight.Lin, n)))
		}
		r.c = append(r.c, new(big.Rat).SetInt64(tight.Lin.K))
		rows = append(rows, r)
		if tight.Eq {
			n := line{}
			for _, x := range r.c {
				n.c = append(n.c, new(big.Rat).Neg(x))
			}
			rows[len(rows)-1].eq = false
			rows = append(rows, n)
		}
	}
	for v := range names {
		var next, low, up []line
		for _, r := range rows {
			switch r.c[v].Sign() {
			case 0:
				next = append(next, r)
			case 1:
				low = append(low, r)
			default:
				up = append(up, r)
			}
		}
		for _, a := range low {
			for _, b := range up {
				var s line
				for i := range a.c {
					x := new(big.Rat).Quo(a.c[i], a.c[v])
					y := new(big.Rat).Quo(b.c[i], b.c[v])
					s.c = append(s.c, x.Sub(x, y))
				}
				next = append(next, s)
			}
		}
		rows = next
	}
	for _, r := range rows {
		if r.c[len(names)].Sign() < 0 {
			return false
		}
	}
	return true
}

// TestInfeasible compares with an oracle on random small systems (7.4).
func TestInfeasible(t *testing.T) {
	seed := uint64(7)
	next := func(n int64) int64 {
		seed = seed*6364136223846793005 + 1442695040888963407
		return int64(seed>>33) % n
	}
	names := []string{"i", "j", "k"}
	found := 0
	for round := range 6000 {
		var l []api.Constraint
		for range 1 + next(6) {
			c := api.Constraint{Lin: api.Lin{K: next(17) - 8}, Eq: next(5) == 0}
			for _, n := range names[:1+round%3] {
				if by := next(17) - 8; by != 0 && next(4) != 0 {
					c.Lin.L = append(c.Lin.L, api.Mono{Name: n, By: by})
				}
			}
			l = append(l, c)
		}
		by, infeasible, err := elim.Infeasible(l, api.MaxSteps)
		if err != api.OK || infeasible == feasible(l, names) {
			t.Fatalf("Infeasible(%v) = %v, %v, %v", l, by, infeasible, err)
		}
		if !infeasible {
			if len(by) != 0 {
				t.Fatalf("multipliers %v beside false", by)
			}
			continue
		}
		found++
		if err := elim.CheckCertificate(l, by); err != api.OK {
			t.Fatalf("the certificate %v of %v is refused: %v", by, l, err)
		}
		// 7.5: no integer point of a small cube satisfies all of l.
		for p := range 729 {
			env := []api.Binding{{Name: "i", Val: int64(p%9 - 4)}, {Name: "j", Val: int64(p/9%9 - 4)}, {Name: "k", Val: int64(p/81 - 4)}}
			if at, _ := constraint.FirstViolated(l, env); at == len(l) {
				t.Fatalf("%v satisfies %v", env, l)
			}
		}
	}
	if found < 500 {
		t.Errorf("only %d systems had no solution", found)
	}
}

// TestManyConstraints puts as many constraints into a system as there may be.
func TestManyConstraints(t *testing.T) {
	full := slices.Repeat([]api.Constraint{ge(1, "j", 1)}, api.MaxConstraints)
	if got, err := elim.Eliminate(full, "i"); len(got) != api.MaxConstraints || err != api.OK {
		t.Error(len(got), err)
	}
	if by, found, err := elim.Infeasible(full, 0); by != nil || found || err != api.OK {
		t.Error(by, found, err)
	}
	// v0 <= v1 <= .. <= v0 has a solution, v0 < v1 <= .. <= v0 has none.
	for _, many := range []int{2, 63, 64, 65, 128, 129, 200} {
		for gap := range int64(2) {
			var l []api.Constraint
			for i := range many {
				a, b := "v"+strconv.Itoa(i), "v"+strconv.Itoa((i+1)%many)
				c := api.Constraint{Lin: api.Lin{L: []api.Mono{{Name: a, By: -1}, {Name: b, By: 1}}}}
				slices.SortFunc(c.Lin.L, func(x, y api.Mono) int { return strings.Compare(x.Name, y.Name) })
				l = append(l, c)
			}
			l[0].Lin.K = -gap
			by, found, err := elim.Infeasible(l, api.MaxSteps)
			if found != (gap > 0) || err != api.OK || found && elim.CheckCertificate(l, by) != api.OK {
				t.Errorf("%d variables, gap %d: %v, %v", many, gap, found, err)
			}
		}
	}
}

// TestGivingUp draws systems with great numbers and little fuel: an answer is right, or
// there is none (7.4).
func TestGivingUp(t *testing.T) {
	seed := uint64(11)
	next := func(n int64) int64 {
		seed = seed*6364136223846793005 + 1442695040888963407
		return int64(seed>>1) % n
	}
	names := []string{"i", "j", "k"}
	seen := map[api.Errno]int{}
	for round := range 4000 {
		size := int64(1) << (3 + 2*(round%30))
		var l []api.Constraint
		for range 2 + next(6) {
			c := api.Constraint{Lin: api.Lin{K: next(size) - size/2}, Eq: next(6) == 0}
			for _, n := range names {
				if by := next(size) - size/2; by != 0 && next(4) != 0 {
					c.Lin.L = append(c.Lin.L, api.Mono{Name: n, By: by})
				}
			}
			l = append(l, c)
		}
		by, infeasible, err := elim.Infeasible(l, int(next(12)))
		seen[err]++
		switch {
		case err == api.OK && infeasible == feasible(l, names), infeasible && elim.CheckCertificate(l, by) != api.OK, infeasible && err != api.OK, !infeasible && len(by) != 0:
			t.Fatalf("Infeasible(%v) = %v, %v, %v", l, by, infeasible, err)
		case err != api.OK && err != api.ErrFuel && err != api.ErrRange:
			t.Fatalf("Infeasible(%v): %v", l, err)
		}
	}
	if seen[api.OK] < 500 || seen[api.ErrFuel] < 100 || seen[api.ErrRange] < 100 {
		t.Error(seen)
	}
}

// TestEliminateMeaning holds 7.5 for random systems at integer points.
func TestEliminateMeaning(t *testing.T) {
	seed := uint64(3)
	next := func(n int64) int64 {
		seed = seed*6364136223846793005 + 1442695040888963407
		return int64(seed>>33) % n
	}
	for range 2000 {
		var l []api.Constraint
		for range 1 + next(5) {
			c := api.Constraint{Lin: api.Lin{K: next(9) - 2}, Eq: next(6) == 0}
			for _, n := range []string{"i", "j"} {
				if by := next(7) - 3; by != 0 {
					c.Lin.L = append(c.Lin.L, api.Mono{Name: n, By: by})
				}
			}
			l = append(l, c)
		}
		got, err := elim.Eliminate(l, "i")
		if err != api.OK {
			t.Fatal(err)
		}
		for _, d := range got {
			c, err := constraint.Combine(l, d.By)
			if err != api.OK || !constraint.Same(c, d.Constraint) || lin.Coeff(c.Lin, "i") != 0 {
				t.Fatalf("%v is not derived from %v", d, l)
			}
		}
		for j := int64(-4); j <= 4; j++ {
			some := false
			for i := int64(-200); i <= 200; i++ {
				// Sixths of i are enough for coefficients up to 3 in magnitude.
				some = some || holdsAt(l, i, j)
			}
			all := true
			for _, d := range got {
				h, _ := constraint.Holds(d.Constraint, []api.Binding{{Name: "j", Val: j}})
				all = all && h
			}
			if some != all {
				t.Fatalf("%v: j = %d: %v, %v", l, j, some, all)
			}
		}
	}
}

// holdsAt evaluates at i/6.
func holdsAt(l []api.Constraint, i, j int64) bool {
	for _, c := range l {
		n := 6*c.Lin.K + lin.Coeff(c.Lin, "i")*i + 6*lin.Coeff(c.Lin, "j")*j
		if n < 0 || c.Eq && n != 0 {
			return false
		}
	}
	return true
}
