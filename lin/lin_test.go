package lin_test

import (
	"math"
	"math/big"
	"slices"
	"strconv"
	"testing"

	"brocade/api"
	"brocade/lin"
)

const (
	least = math.MinInt64
	most  = math.MaxInt64
)

// form builds a form from its constant and pairs of name and coefficient.
func form(k int64, l ...any) api.Lin {
	f := api.Lin{K: k}
	for i := 0; i < len(l); i += 2 {
		by, ok := l[i+1].(int)
		if !ok {
			by = int(l[i+1].(int64))
		}
		f.L = append(f.L, api.Mono{Name: l[i].(string), By: int64(by)})
	}
	return f
}

var good = []api.Lin{form(0), form(5), form(-5), form(least), form(most), form(0, "i", 1), form(-1, "i", -1, "j", 12), form(3, "i", 2), form(0, "i", -2, "j", 1), form(7, "a", 3, "i", -3, "zz_9", 1), form(0, "i", most), form(0, "i", least), form(-9, "j", 4, "k", 6), form(most, "i", 1, "k", most), form(1, "i", math.MinInt64/2)}

var bad = []api.Lin{form(0, "i", 0), form(0, "j", 1, "i", 1), form(0, "i", 1, "i", 2), form(0, "", 1), form(0, "I", 1), form(0, "sum", 1), form(0, "abcdefghijklmnopq", 1), form(0, "_a", 1), form(0, "a-b", 1), form(0, "1a", 1), form(0, "é", 1)}

// wide evaluates a form with numbers of any length; absent names count as 0.
func wide(f api.Lin, env map[string]int64) *big.Int {
	r := big.NewInt(f.K)
	for _, m := range f.L {
		r.Add(r, new(big.Int).Mul(big.NewInt(m.By), big.NewInt(env[m.Name])))
	}
	return r
}

// expect compares a result with exact coefficients.
func expect(t *testing.T, what string, got api.Lin, err api.Errno, k *big.Int, by map[string]*big.Int) {
	t.Helper()
	fit := k.IsInt64()
	for _, c := range by {
		fit = fit && c.IsInt64()
	}
	if !fit {
		if err != api.ErrRange || !lin.Same(got, api.Lin{}) {
			t.Errorf("%s = %v, %v; want ErrRange", what, got, err)
		}
		return
	}
	count := 0
	for n, c := range by {
		if c.Sign() != 0 {
			count++
		}
		if lin.Coeff(got, n) != c.Int64() {
			t.Errorf("%s = %v: coefficient of %s", what, got, n)
		}
	}
	if err != api.OK || got.K != k.Int64() || len(got.L) != count || lin.Validate(got) != api.OK {
		t.Errorf("%s = %v, %v", what, got, err)
	}
}

func coefficients(f api.Lin) map[string]*big.Int {
	by := map[string]*big.Int{}
	for _, m := range f.L {
		by[m.Name] = big.NewInt(m.By)
	}
	return by
}

func TestValidate(t *testing.T) {
	for _, f := range good {
		if lin.Validate(f) != api.OK {
			t.Errorf("%v must be valid", f)
		}
	}
	for _, f := range bad {
		_, e1 := lin.Add(f, form(0))
		_, e2 := lin.Add(form(0), f)
		_, e3 := lin.Scale(f, 0)
		_, e4 := lin.Substitute(f, "x", form(0))
		_, e5 := lin.Substitute(form(0), "x", f)
		_, e6 := lin.Eval(f, nil)
		for i, e := range []api.Errno{lin.Validate(f), e1, e2, e3, e4, e5, e6} {
			if e != api.ErrArg {
				t.Errorf("%v: call %d returns %v", f, i, e)
			}
		}
		if lin.Format(f) != "" {
			t.Errorf("%v must have no text", f)
		}
	}
	for _, n := range []string{"sum", "size", "where", "in", "def", "out", "prod", "min", "max", "scan", "over", "if", "cast", "frac", "int", "fix", "ceil", "floor", "zero", "even", "sat", "wrap", "", "X", "a b", "abcdefghijklmnopq", "9"} {
		if !lin.Same(lin.Var(n), api.Lin{}) {
			t.Errorf("Var(%q)", n)
		}
		if _, err := lin.Substitute(form(1), n, form(0)); err != api.ErrArg {
			t.Errorf("Substitute for %q: %v", n, err)
		}
	}
	for _, n := range []string{"a", "abcdefghijklmnop", "sums", "a_9", "z0"} {
		if f := lin.Var(n); !lin.Same(f, form(0, n, 1)) {
			t.Errorf("Var(%q) = %v", n, f)
		}
	}
	if !lin.Same(lin.Const(-7), form(-7)) {
		t.Error("Const")
	}
}

func TestAddAndScale(t *testing.T) {
	for _, a := range good {
		for _, b := range good {
			by := coefficients(a)
			for n, c := range coefficients(b) {
				if by[n] == nil {
					by[n] = new(big.Int)
				}
				by[n].Add(by[n], c)
			}
			got, err := lin.Add(a, b)
			expect(t, "Add", got, err, new(big.Int).Add(big.NewInt(a.K), big.NewInt(b.K)), by)
			other, err2 := lin.Add(b, a)
			if err != err2 || !lin.Same(got, other) {
				t.Errorf("Add(%v, %v) does not commute", a, b)
			}
		}
		for _, f := range []int64{0, 1, -1, 2, -3, most, least, 1 << 32} {
			by := coefficients(a)
			for n := range by {
				by[n].Mul(by[n], big.NewInt(f))
			}
			got, err := lin.Scale(a, f)
			expect(t, "Scale", got, err, new(big.Int).Mul(big.NewInt(a.K), big.NewInt(f)), by)
		}
		if minus, err := lin.Scale(a, -1); err == api.OK {
			if zero, err := lin.Add(a, minus); err != api.OK || !lin.Same(zero, api.Lin{}) {
				t.Errorf("%v minus itself: %v, %v", a, zero, err)
			}
		}
	}
}

func TestSubstitute(t *testing.T) {
	for _, x := range []struct {
		l    api.Lin
		name string
		to   api.Lin
		want api.Lin
		err  api.Errno
	}{
		{form(0, "i", 2, "j", 1), "i", form(-1, "k", 3), form(-2, "j", 1, "k", 6), api.OK},
		{form(0, "i", 2, "j", 1), "k", form(-1, "k", 3), form(0, "i", 2, "j", 1), api.OK},
		{form(0, "i", 2, "j", 2), "i", form(0, "j", -1), form(0), api.OK},
		{form(1, "i", 2), "i", form(3, "i", 5), form(7, "i", 10), api.OK},
		{form(0, "i", 2), "i", form(0, "k", most), form(0), api.ErrRange},
		{form(most, "i", 1), "i", form(1), form(0), api.ErrRange},
		{form(most, "i", 2), "i", form(most), form(0), api.ErrRange},
	} {
		if got, err := lin.Substitute(x.l, x.name, x.to); !lin.Same(got, x.want) || err != x.err {
			t.Errorf("Substitute(%v, %s, %v) = %v, %v", x.l, x.name, x.to, got, err)
		}
	}
	for _, f := range good {
		if got, err := lin.Substitute(f, "i", lin.Var("i")); !lin.Same(got, f) || err != api.OK {
			t.Errorf("%v: i for i gives %v, %v", f, got, err)
		}
		got, err := lin.Substitute(f, "i", form(2, "j", 3))
		at := map[string]int64{"a": 2, "j": -4, "k": 5, "zz_9": 7}
		at["i"] = 2 + 3*at["j"]
		if err == api.OK && wide(got, at).Cmp(wide(f, at)) != 0 {
			t.Errorf("Substitute changes the value of %v", f)
		}
	}
	arg := form(0, "i", 1, "j", 1)
	got, _ := lin.Substitute(arg, "k", form(0))
	got.L[0].By = 9
	if arg.L[0].By != 1 {
		t.Error("the result shares memory with the argument")
	}
}

func TestEval(t *testing.T) {
	values := []int64{0, 1, -1, 3, most, least, 1 << 62}
	for _, f := range good {
		for _, i := range values {
			for _, j := range values {
				env := []api.Binding{{Name: "j", Val: j}, {Name: "i", Val: i}, {Name: "i", Val: 77}, {Name: "a", Val: j}, {Name: "k", Val: i}, {Name: "zz_9", Val: 5}}
				want := wide(f, map[string]int64{"i": i, "j": j, "a": j, "k": i, "zz_9": 5})
				got, err := lin.Eval(f, env)
				if !want.IsInt64() && (got != 0 || err != api.ErrRange) || want.IsInt64() && (got != want.Int64() || err != api.OK) {
					t.Errorf("Eval(%v) with i %d, j %d = %d, %v; want %v", f, i, j, got, err, want)
				}
			}
		}
	}
	// Far out of range on the way, and back.
	f, env := api.Lin{K: 1}, []api.Binding(nil)
	for i := range 40 {
		name := "v" + strconv.Itoa(10+i)
		f.L = append(f.L, api.Mono{Name: name, By: most})
		env = append(env, api.Binding{Name: name, Val: []int64{most, -most}[i/20]})
	}
	if got, err := lin.Eval(f, env); got != 1 || err != api.OK {
		t.Error(got, err)
	}
	for _, x := range []struct {
		f   api.Lin
		env []api.Binding
		err api.Errno
	}{{form(0, "i", 2), []api.Binding{{Name: "i", Val: 1 << 62}}, api.ErrRange}, {form(0, "i", 2, "j", 1), []api.Binding{{Name: "i", Val: 1 << 62}}, api.ErrNotFound}, {form(0, "i", 2), nil, api.ErrNotFound}} {
		if got, err := lin.Eval(x.f, x.env); got != 0 || err != x.err {
			t.Errorf("Eval(%v) = %d, %v", x.f, got, err)
		}
	}
}

func TestQueries(t *testing.T) {
	twice := form(0, "i", 3, "i", 5)
	if lin.Coeff(twice, "i") != 3 || lin.Coeff(twice, "j") != 0 || lin.Coeff(form(0, "Q", 7), "Q") != 7 {
		t.Error("Coeff")
	}
	for _, x := range []struct {
		f    api.Lin
		want int64
	}{{form(9), 0}, {form(1, "i", 4, "j", -6), 2}, {form(0, "i", least), least}, {form(0, "i", least, "j", 6), 2}, {form(0, "i", -5), 5}, {form(0, "j", 0, "i", 0), 0}, {form(0, "j", 4, "i", 0), 4}} {
		if got := lin.Gcd(x.f); got != x.want {
			t.Errorf("Gcd(%v) = %d", x.f, got)
		}
	}
	if got := lin.Names(form(0, "j", 1, "i", 2), form(3), form(0, "k", 1, "i", 0), form(0, "", 1)); !slices.Equal(got, []string{"", "i", "j", "k"}) {
		t.Error(got)
	}
	if len(lin.Names()) != 0 {
		t.Error("Names of nothing")
	}
	if lin.Same(form(0, "i", 1, "j", 1), form(0, "j", 1, "i", 1)) || lin.Same(form(1), form(2)) || !lin.Same(twice, form(0, "i", 3, "i", 5)) || lin.Same(form(0, "i", 1), form(0, "i", 2)) || lin.Same(form(0, "i", 1), form(0)) {
		t.Error("Same")
	}
}

func TestCompare(t *testing.T) {
	sorted := []api.Lin{form(least), form(-1), form(0), form(9), form(0, "i", -2), form(5, "i", -2), form(0, "i", 1), form(-5, "i", 1, "j", 1), form(0, "i", 1, "k", -9), form(0, "i", 2), form(0, "j", -7)}
	for i, a := range sorted {
		for k, b := range sorted {
			want := 0
			if i < k {
				want = -1
			} else if i > k {
				want = 1
			}
			if got := lin.Compare(a, b); got != want {
				t.Errorf("Compare(%v, %v) = %d", a, b, got)
			}
		}
	}
}

func TestFormat(t *testing.T) {
	for _, x := range []struct {
		f    api.Lin
		want string
	}{{form(0), "0"}, {form(-3), "-3"}, {form(4), "4"}, {form(-1, "i", -1, "j", 12), "-i + 12*j - 1"}, {form(0, "i", 1), "i"}, {form(7, "i", -2), "-2*i + 7"}, {form(0, "i", 1, "j", -1), "i - j"}, {form(least, "i", least), "-9223372036854775808*i - 9223372036854775808"}, {form(most, "i", 1, "j", least), "i - 9223372036854775808*j + 9223372036854775807"}} {
		if got := lin.Format(x.f); got != x.want {
			t.Errorf("Format(%v) = %q", x.f, got)
		}
	}
}
