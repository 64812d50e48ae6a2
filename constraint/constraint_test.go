package constraint_test

import (
	"math"
	"slices"
	"testing"

	"brocade/api"
	"brocade/constraint"
	"brocade/lin"
)

const (
	least = math.MinInt64
	most  = math.MaxInt64
)

func form(k int64, l ...any) api.Lin {
	f := api.Lin{K: k}
	for i := 0; i < len(l); i += 2 {
		f.L = append(f.L, api.Mono{Name: l[i].(string), By: int64(l[i+1].(int))})
	}
	return f
}

func ge(k int64, l ...any) api.Constraint { return api.Constraint{Lin: form(k, l...)} }

func eq(k int64, l ...any) api.Constraint { return api.Constraint{Lin: form(k, l...), Eq: true} }

func same(a, b []api.Constraint) bool { return slices.EqualFunc(a, b, constraint.Same) }

var bad = []api.Constraint{ge(0, "i", 0), ge(0, "j", 1, "i", 1), eq(0, "sum", 1), ge(0, "i", 1, "i", 1)}

func env(i, j int64) []api.Binding {
	return []api.Binding{{Name: "i", Val: i}, {Name: "j", Val: j}, {Name: "i", Val: 99}}
}

func TestInvalid(t *testing.T) {
	for _, c := range bad {
		h, e1 := constraint.Holds(c, env(0, 0))
		x, kind, e2 := constraint.Tighten(c)
		n, e3 := constraint.Negate(c)
		y, e4 := constraint.Combine([]api.Constraint{ge(0), c}, []int64{1, 0})
		l, ok, e5 := constraint.Normalize([]api.Constraint{ge(-1), c})
		for i, e := range []api.Errno{constraint.Validate(c), e1, e2, e3, e4, e5} {
			if e != api.ErrArg {
				t.Errorf("%v: call %d returns %v", c, i, e)
			}
		}
		if h || kind != 0 || len(n) != 0 || len(l) != 0 || ok || !constraint.Same(x, api.Constraint{}) || !constraint.Same(y, api.Constraint{}) || constraint.Format(c) != "" {
			t.Errorf("%v: results beside an error", c)
		}
	}
	if constraint.Validate(eq(3, "i", -1)) != api.OK {
		t.Error("a valid constraint")
	}
}

func TestHolds(t *testing.T) {
	for _, x := range []struct {
		c    api.Constraint
		i    int64
		want bool
		err  api.Errno
	}{{ge(-3, "i", 1), 3, true, 0}, {ge(-3, "i", 1), 2, false, 0}, {ge(-3, "i", 1), 4, true, 0}, {eq(-3, "i", 1), 3, true, 0}, {eq(-3, "i", 1), 4, false, 0}, {eq(-3, "i", 1), 2, false, 0}, {ge(0, "i", 4), 1 << 62, false, api.ErrRange}, {ge(0, "q", 1), 1, false, api.ErrNotFound}} {
		if got, err := constraint.Holds(x.c, env(x.i, 0)); got != x.want || err != x.err {
			t.Errorf("Holds(%v, %d) = %v, %v", x.c, x.i, got, err)
		}
	}
	l := []api.Constraint{ge(0, "i", 1), ge(-2, "j", 1), ge(0, "q", 1), ge(-5)}
	for _, x := range []struct {
		l    []api.Constraint
		i, j int64
		at   int
		err  api.Errno
	}{{l, -1, 0, 0, 0}, {l, 0, 0, 1, 0}, {l, 0, 2, 2, api.ErrNotFound}, {l[:2], 0, 2, 2, 0}, {l[3:], 0, 0, 0, 0}, {nil, 0, 0, 0, 0}, {bad, 0, 0, 0, api.ErrArg}} {
		if at, err := constraint.FirstViolated(x.l, env(x.i, x.j)); at != x.at || err != x.err {
			t.Errorf("FirstViolated(%v) = %d, %v", x.l, at, err)
		}
	}
}

func TestTighten(t *testing.T) {
	for _, x := range []struct {
		c, want api.Constraint
		kind    int
		err     api.Errno
	}{
		{ge(-3, "i", 2, "j", 4), ge(-2, "i", 1, "j", 2), 0, 0}, {eq(-3, "i", 2), ge(-1), 2, 0}, {eq(-4, "i", -2), eq(2, "i", 1), 0, 0}, {ge(5, "i", -3), ge(1, "i", -1), 0, 0}, {ge(-5, "i", -3), ge(-2, "i", -1), 0, 0},
		{ge(0), ge(0), 1, 0}, {ge(7), ge(0), 1, 0}, {ge(-7), ge(-1), 2, 0}, {eq(0), ge(0), 1, 0}, {eq(1), ge(-1), 2, 0}, {eq(-1), ge(-1), 2, 0},
		{ge(least, "i", least), ge(-1, "i", -1), 0, 0}, {ge(most, "i", least), ge(0, "i", -1), 0, 0}, {ge(-1, "i", least), ge(-1, "i", -1), 0, 0}, {ge(0, "i", least), ge(0, "i", -1), 0, 0}, {eq(least, "i", least), eq(1, "i", 1), 0, 0}, {eq(1, "i", least), ge(-1), 2, 0}, {ge(5, "i", least, "j", 6), ge(2, "i", least/2, "j", 3), 0, 0},
		{eq(least, "i", -1), api.Constraint{}, 0, api.ErrRange}, {eq(0, "i", -1, "j", least), api.Constraint{}, 0, api.ErrRange}, {eq(least, "i", 1), eq(least, "i", 1), 0, 0}, {eq(6, "i", 4, "j", -2), eq(3, "i", 2, "j", -1), 0, 0},
	} {
		if got, kind, err := constraint.Tighten(x.c); !constraint.Same(got, x.want) || kind != x.kind || err != x.err {
			t.Errorf("Tighten(%v) = %v, %d, %v", x.c, got, kind, err)
		}
	}
}

func TestNegate(t *testing.T) {
	for _, x := range []struct {
		c    api.Constraint
		want []api.Constraint
		err  api.Errno
	}{
		{ge(-3, "i", 1), []api.Constraint{ge(2, "i", -1)}, 0}, {eq(-3, "i", 1), []api.Constraint{ge(-4, "i", 1), ge(2, "i", -1)}, 0}, {ge(least, "i", 1), []api.Constraint{ge(most, "i", -1)}, 0}, {ge(most), []api.Constraint{ge(least)}, 0},
		{ge(0, "i", least), nil, api.ErrRange}, {eq(least, "i", 1), nil, api.ErrRange}, {eq(most, "i", 1), []api.Constraint{ge(most-1, "i", 1), ge(least, "i", -1)}, 0},
	} {
		if got, err := constraint.Negate(x.c); !same(got, x.want) || err != x.err {
			t.Errorf("Negate(%v) = %v, %v", x.c, got, err)
		}
	}
}

func TestCombine(t *testing.T) {
	for _, x := range []struct {
		l    []api.Constraint
		by   []int64
		want api.Constraint
		err  api.Errno
	}{
		{[]api.Constraint{ge(1, "i", 2), ge(-3, "i", -1, "j", 1)}, []int64{1, 2}, ge(-5, "j", 2), 0},
		{[]api.Constraint{eq(1, "i", 2), ge(-3, "i", 2)}, []int64{-1, 1}, ge(-4), 0},
		{[]api.Constraint{eq(1, "i", 2), ge(-3, "i", 2)}, []int64{-2, 0}, eq(-2, "i", -4), 0},
		{[]api.Constraint{ge(1, "i", 2)}, []int64{0}, eq(0), 0}, {nil, nil, eq(0), 0},
		{[]api.Constraint{ge(1, "i", 2)}, []int64{-1}, api.Constraint{}, api.ErrArg}, {[]api.Constraint{ge(1)}, nil, api.Constraint{}, api.ErrArg}, {[]api.Constraint{ge(1)}, []int64{1, 1}, api.Constraint{}, api.ErrArg},
		{[]api.Constraint{ge(most), ge(most)}, []int64{1, 1}, api.Constraint{}, api.ErrRange}, {[]api.Constraint{ge(most), ge(1), ge(-1)}, []int64{1, 1, 1}, api.Constraint{}, api.ErrRange}, {[]api.Constraint{ge(most, "i", 2)}, []int64{2}, api.Constraint{}, api.ErrRange},
		{[]api.Constraint{ge(most), ge(most), ge(0)}, []int64{1, 1, -1}, api.Constraint{}, api.ErrArg},
	} {
		if got, err := constraint.Combine(x.l, x.by); !constraint.Same(got, x.want) || err != x.err {
			t.Errorf("Combine(%v, %v) = %v, %v", x.l, x.by, got, err)
		}
	}
}

func TestNormalize(t *testing.T) {
	for _, x := range []struct {
		l, want []api.Constraint
		ok      bool
		err     api.Errno
	}{
		{[]api.Constraint{ge(0, "i", 1), ge(-2, "i", 1)}, []api.Constraint{ge(-2, "i", 1)}, true, 0},
		{[]api.Constraint{ge(1), eq(0)}, nil, true, 0}, {nil, nil, true, 0},
		{[]api.Constraint{ge(0, "j", 1), ge(-1)}, nil, false, 0}, {[]api.Constraint{eq(1, "i", 2)}, nil, false, 0},
		{[]api.Constraint{eq(1, "i", 1), eq(2, "i", 1)}, nil, false, 0}, {[]api.Constraint{eq(1, "i", -1), eq(-1, "i", 1)}, []api.Constraint{eq(-1, "i", 1)}, true, 0},
		{[]api.Constraint{eq(-3, "i", 1), ge(-4, "i", 1)}, nil, false, 0}, {[]api.Constraint{ge(-1, "i", 1), eq(-1, "j", 1), eq(-3, "i", 1)}, []api.Constraint{eq(-3, "i", 1), eq(-1, "j", 1)}, true, 0}, {[]api.Constraint{ge(-2, "i", 1), eq(-3, "i", 1)}, []api.Constraint{eq(-3, "i", 1)}, true, 0}, {[]api.Constraint{ge(-3, "i", 1), eq(-3, "i", 1)}, []api.Constraint{eq(-3, "i", 1)}, true, 0},
		{[]api.Constraint{ge(0, "j", 1), ge(3, "i", 2, "j", 2), ge(0, "i", -1), ge(5, "i", 1)}, []api.Constraint{ge(0, "i", -1), ge(5, "i", 1), ge(1, "i", 1, "j", 1), ge(0, "j", 1)}, true, 0},
		{[]api.Constraint{ge(0, "i", 1), ge(-1, "i", -1)}, []api.Constraint{ge(-1, "i", -1), ge(0, "i", 1)}, true, 0},
		{[]api.Constraint{ge(-1), eq(least, "i", -1)}, nil, false, api.ErrRange},
		{make([]api.Constraint, api.MaxConstraints), nil, true, 0}, {make([]api.Constraint, api.MaxConstraints+1), nil, false, api.ErrLimit},
	} {
		got, ok, err := constraint.Normalize(x.l)
		if !same(got, x.want) || ok != x.ok || err != x.err {
			t.Errorf("Normalize(%v) = %v, %v, %v", x.l, got, ok, err)
		}
		if again, ok, err := constraint.Normalize(got); err != api.OK || !ok || !same(again, got) {
			t.Errorf("Normalize is not idempotent for %v", got)
		}
	}
}

func TestText(t *testing.T) {
	if s := constraint.Format(eq(-3, "i", 1)); s != "0 == i - 3" {
		t.Error(s)
	}
	if s := constraint.Format(ge(0)); s != "0 <= 0" {
		t.Error(s)
	}
	if constraint.Same(eq(0), ge(0)) || constraint.Same(ge(0, "i", 1), ge(1, "i", 1)) || !constraint.Same(ge(0, "i", 1), ge(0, "i", 1)) {
		t.Error("Same")
	}
}

// TestMeaning holds P6.7 at all points of a small square.
func TestMeaning(t *testing.T) {
	var all []api.Constraint
	for _, c := range []int{-4, -1, 2, 3} {
		for _, d := range []int{-2, 1, 6} {
			for k := int64(-7); k <= 7; k += 2 {
				all = append(all, ge(k, "i", c, "j", d), eq(k, "i", c, "j", d))
			}
		}
	}
	for at, c := range all {
		tight, _, _ := constraint.Tighten(c)
		negation, _ := constraint.Negate(c)
		other := all[(at*7+3)%len(all)]
		list, possible, _ := constraint.Normalize([]api.Constraint{c, other})
		sum, _ := constraint.Combine([]api.Constraint{c, other}, []int64{2, 3})
		for i := int64(-6); i <= 6; i++ {
			for j := int64(-6); j <= 6; j++ {
				here, _ := constraint.Holds(c, env(i, j))
				there, _ := constraint.Holds(other, env(i, j))
				count := 0
				for _, x := range append(negation, c) {
					if h, _ := constraint.Holds(x, env(i, j)); h {
						count++
					}
				}
				h, _ := constraint.Holds(tight, env(i, j))
				first, _ := constraint.FirstViolated(list, env(i, j))
				s, _ := constraint.Holds(sum, env(i, j))
				if h != here || count != 1 || (here && there) != (possible && first == len(list)) || here && there && !s {
					t.Fatalf("%v and %v at %d, %d", c, other, i, j)
				}
			}
		}
	}
}

func TestNoSharing(t *testing.T) {
	c := ge(0, "i", 1)
	l, _, _ := constraint.Normalize([]api.Constraint{c})
	l[0].Lin.L[0].By = 5
	x, _, _ := constraint.Tighten(c)
	x.Lin.L[0].By = 5
	if lin.Coeff(c.Lin, "i") != 1 {
		t.Error("the result shares memory with the argument")
	}
}
