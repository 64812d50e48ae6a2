package bounds_test

import (
	"math"
	"slices"
	"testing"

	"brocade/api"
	"brocade/bounds"
	"brocade/constraint"
	"brocade/lin"
	"brocade/parser"
	"brocade/program"
)

const full = api.MaxSteps

func parse(t *testing.T, s string) api.Prog {
	t.Helper()
	p, at, err := parser.Prog(s)
	if err != api.OK {
		t.Fatalf("%q: %d, %v", s, at, err)
	}
	if at, err := program.Validate(p); err != api.OK {
		t.Fatalf("%q: %d, %v", s, at, err)
	}
	return p
}

func texts(l []api.Constraint) []string {
	var r []string
	for _, c := range l {
		r = append(r, constraint.Format(c))
	}
	return r
}

var invalid = api.Prog{Sizes: []string{"n", "n"}}

func TestAssumptions(t *testing.T) {
	p := parse(t, "size n, m; where 0 <= m - n; where 0 == n - 4; in a: frac[n]; def b: frac[i < n, j < 2*m + 1] = sum k < n: a[0]; def c: frac[] = a[0];")
	for _, x := range []struct {
		def  int
		want []string
	}{
		{0, []string{"0 <= m - n", "0 == n - 4", "0 <= n - 1", "0 <= m - 1", "0 <= i", "0 <= -i + n - 1", "0 <= j", "0 <= -j + 2*m", "0 <= k", "0 <= -k + n - 1"}}, {1, []string{"0 <= m - n", "0 == n - 4", "0 <= n - 1", "0 <= m - 1"}}, {2, nil}, {-1, nil},
	} {
		if got := texts(bounds.Assumptions(p, x.def)); !slices.Equal(got, x.want) {
			t.Errorf("Assumptions(%d) = %v", x.def, got)
		}
	}
	if bounds.Assumptions(invalid, 0) != nil || bounds.Accesses(invalid) != nil {
		t.Error("an invalid program has nothing")
	}
	// A size so small that size - 1 - i does not fit is left out.
	p.Defs[0].Dims[0].Size = lin.Const(math.MinInt64)
	if got := texts(bounds.Assumptions(p, 0)); len(got) != 9 || got[4] != "0 <= i" || got[5] != "0 <= j" {
		t.Error(got)
	}
	bounds.Assumptions(p, 0)[0].Lin.L[0].By = 99
	if p.Where[0].Lin.L[0].By != 1 {
		t.Error("the result shares memory with the program")
	}
}

func TestAccesses(t *testing.T) {
	p := parse(t, "size n; in a: frac[n, 3]; in t: int[n]; def b: frac[i < n] = a[i + 1, t[2*i]] + if(a[0, 0] < frac(1), -a[n, 1], frac(0)); def c: int[i < n] = t[i]; def d: int[] = int(1);")
	want := []string{"0 <= i + 1", "0 <= -i + n - 2", "0 <= 2*i", "0 <= -2*i + n - 1", "0 <= 0", "0 <= n - 1", "0 <= 0", "0 <= 2", "0 <= n", "0 <= -1", "0 <= 1", "0 <= 1", "0 <= i", "0 <= -i + n - 1"}
	got := bounds.Accesses(p)
	if len(got) != len(want) {
		t.Fatal(got)
	}
	for i, x := range got {
		def, axis := 0, i
		if i >= 12 {
			def, axis = 1, i-12
		}
		if x.Def != def || x.Axis != axis || constraint.Format(x.Constraint) != want[i] {
			t.Errorf("access %d is %v", i, x)
		}
	}
	p.Defs[0].Body = p.Defs[0].Body.Args[0]
	p.Defs[0].Body.Idx[0].Lin = lin.Const(math.MinInt64)
	if got := bounds.Accesses(p); constraint.Format(got[0].Constraint) != "0 <= -9223372036854775808" || constraint.Format(got[1].Constraint) != "0 <= -1" {
		t.Error(got)
	}
}

func TestProve(t *testing.T) {
	for _, x := range []struct {
		s      string
		proofs int
		at     int
		err    api.Errno
	}{
		{"size n; in a: frac[n]; def b: frac[i < n] = a[i + 1]; out b;", 0, 1, api.ErrUnproved}, {"size n; in a: frac[n]; def b: frac[i < n] = if([i + 1] < [n], a[i + 1], a[i]); out b;", 4, 0, 0}, {"size n; in a: frac[n]; def b: frac[i < n] = a[i - 1];", 0, 0, api.ErrUnproved}, {"size n; in a: frac[n]; def b: frac[i < n] = a[0]; def c: frac[i < n] = b[i] + b[n - 1 - i] + b[n];", 0, 7, api.ErrUnproved},
		{"size n; in a: frac[n]; def b: frac[i < n] = if([i] == int(0), a[0], a[i - 1]);", 0, 2, api.ErrUnproved}, {"size n; in a: frac[n]; def b: frac[i < n] = if(int(0) < [i], a[i - 1], a[0]);", 4, 0, 0}, {"size n; in a: frac[n]; def b: frac[i < n] = if(!(int(0) < [i]), a[i], a[i - 1]);", 4, 0, 0}, {"size n; in a: frac[n]; def b: frac[i < n] = if(!([i] <= int(0)), a[i - 1], a[0]);", 4, 0, 0}, {"size n; in a: frac[n]; def b: frac[i < n] = if(!!([i] <= int(0)), a[0], a[i - 1]);", 4, 0, 0},
		{"size n; in a: frac[n]; def b: frac[i < n] = if(int(1) <= [i] & [i] + int(1) < [n], a[i - 1] + a[i + 1], a[i]);", 6, 0, 0}, {"size n; in a: frac[n]; def b: frac[i < n] = if(int(1) <= [i] & [i] + int(1) < [n], a[0], a[i - 1]);", 0, 2, api.ErrUnproved}, {"size n; in a: frac[n]; def b: frac[i < n] = if(int(1) <= [i] | [i] + int(1) < [n], a[i - 1], a[i]);", 0, 0, api.ErrUnproved}, {"size n; in a: frac[n]; def b: frac[i < n] = if([i - 1] < int(0), a[i], if([n] - [i] == int(1), a[i - 1], a[i + 1]));", 0, 5, api.ErrUnproved}, {"size n; in a: frac[n]; def b: frac[i < n] = if([i - 1] < int(0), a[i], if([n] - [i] <= int(1), a[i - 1], a[i + 1]));", 6, 0, 0},
		{"size n; in a: frac[n]; def b: frac[i < n] = if(a[i] < frac(0) & [i] < -[1 - n], a[i + 1], frac(0));", 4, 0, 0}, {"size n; in a: frac[n]; def b: frac[i < n] = if(!(a[i] < frac(0) & [i] < -[1 - n]), a[i], a[i + 1]);", 0, 5, api.ErrUnproved}, {"size n; in a: frac[n]; in t: int[n]; def b: frac[i < n] = a[t[i]] + a[t[n - 1]];", 4, 0, 0}, {"size n; in a: frac[n]; in t: int[n]; def b: frac[i < n] = a[t[i + 1]];", 0, 1, api.ErrUnproved}, {"size n; in a: frac[n]; def b: frac[i < n] = if(a[i + 1] < frac(0), a[i], a[i]);", 0, 1, api.ErrUnproved},
		{"size n, m; in a: frac[n, m]; in b: frac[m, n]; def c: frac[i < n, j < n] = sum k < m: a[i, k] * b[k, j];", 8, 0, 0}, {"size n, m; where 0 <= m - n; in a: frac[m]; def c: frac[i < n] = a[i];", 2, 0, 0}, {"size n, m; where 0 == m - 2*n; in a: frac[m]; def c: frac[i < n, j < 2] = a[2*i + j];", 2, 0, 0}, {"size n, m; in a: frac[m]; def c: frac[i < n] = a[i];", 0, 1, api.ErrUnproved}, {"size n; def c: int[i < n] = [i + 5];", 0, 0, 0}, {"def c: int[] = int(1);", 0, 0, 0},
		{"size n; in a: frac[n]; def b: frac[i < n] = if(cast(int, frac(1)) <= [i], a[i - 1], a[i]);", 0, 0, api.ErrUnproved}, {"size n; in a: frac[n]; def b: frac[i < n] = if(int(1) <= int(1) * [i], a[i - 1], a[i]);", 0, 0, api.ErrUnproved}, {"size n; in a: frac[n]; def b: frac[i < n] = if(frac(1) <= frac(2), a[i - 1], a[i]);", 0, 0, api.ErrUnproved},
	} {
		p := parse(t, x.s)
		proofs, at, err := bounds.Prove(p, full)
		if len(proofs) != x.proofs || at != x.at || err != x.err {
			t.Errorf("%q: %d proofs, %d, %v", x.s, len(proofs), at, err)
			continue
		}
		at, err = bounds.CheckProofs(p, proofs)
		want, code := 0, api.OK
		if all := len(bounds.Accesses(p)); x.err != api.OK && all > 0 {
			code = api.ErrUnproved
		}
		if at != want || err != code {
			t.Errorf("%q: CheckProofs = %d, %v", x.s, at, err)
		}
	}
	if proofs, at, err := bounds.Prove(invalid, full); len(proofs) != 0 || at != 0 || err != api.ErrDuplicate {
		t.Error(proofs, at, err)
	}
	p := parse(t, "size n; in a: frac[n]; def b: frac[i < n] = a[i];")
	if proofs, at, err := bounds.Prove(p, -1); len(proofs) != 0 || at != 0 || err != api.ErrArg {
		t.Error(proofs, at, err)
	}
}

func TestCheckProofs(t *testing.T) {
	p := parse(t, "size n; in a: frac[n]; def b: frac[i < n] = a[i] + a[n - 1 - i];")
	fresh := func() []api.Proof {
		l, _, err := bounds.Prove(p, full)
		if err != api.OK || len(l) != 4 {
			t.Fatal(l, err)
		}
		return l
	}
	for k, x := range []struct {
		change func(l []api.Proof) []api.Proof
		at     int
		err    api.Errno
	}{
		{func(l []api.Proof) []api.Proof { return l }, 0, 0}, {func(l []api.Proof) []api.Proof { return l[:3] }, 3, api.ErrUnproved}, {func(l []api.Proof) []api.Proof { return nil }, 0, api.ErrUnproved}, {func(l []api.Proof) []api.Proof { return append(l, l[0]) }, 4, api.ErrUnproved}, {func(l []api.Proof) []api.Proof { l[1].Access.Def = 1; return l }, 1, api.ErrUnproved}, {func(l []api.Proof) []api.Proof { l[2].Access.Axis = 7; return l }, 2, api.ErrUnproved}, {func(l []api.Proof) []api.Proof { l[3].Access.Constraint.Lin.K = 9; return l }, 3, api.ErrUnproved}, {func(l []api.Proof) []api.Proof { l[3].Access.Constraint.Eq = true; return l }, 3, api.ErrUnproved}, {func(l []api.Proof) []api.Proof { l[0], l[1] = l[1], l[0]; return l }, 0, api.ErrUnproved},
		{func(l []api.Proof) []api.Proof { l[2].By = nil; return l }, 2, api.ErrUnproved}, {func(l []api.Proof) []api.Proof { l[1].By = make([]int64, len(l[1].By)); return l }, 1, api.ErrUnproved}, {func(l []api.Proof) []api.Proof { l[1].By[0] = -1; return l }, 1, api.ErrArg},
	} {
		if at, err := bounds.CheckProofs(p, x.change(fresh())); at != x.at || err != x.err {
			t.Errorf("change %d: %d, %v", k, at, err)
		}
	}
	if at, err := bounds.CheckProofs(api.Prog{Params: []api.Param{{}}}, nil); at != 2 || err != api.ErrName {
		t.Error(at, err)
	}
}

func bind(l ...any) []api.Binding {
	var r []api.Binding
	for i := 0; i < len(l); i += 2 {
		r = append(r, api.Binding{Name: l[i].(string), Val: int64(l[i+1].(int))})
	}
	return r
}

func TestCheckSizes(t *testing.T) {
	one := "size n; in a: frac[n]; def b: frac[i < n] = a[i + 1]; out b;"
	two := "size n, m; where 0 <= m - n; in a: frac[m]; def b: frac[i < n] = a[i]; def c: frac[j < n - 2] = sum k < 3*m: a[j + 1];"
	guard := "size n; in a: frac[n]; def b: frac[i < n] = if([i + 2] < [n] & [3] <= [i], a[i + 2] + a[i - 3], a[i]);"
	wild := "size n; in a: frac[n]; def b: frac[i < n] = if([4611686018427387904*i] < int(5), a[i], a[i]) + a[2*i];"
	for k, x := range []struct {
		s     string
		sizes []api.Binding
		at    int
		err   api.Errno
	}{
		{one, bind("n", 3), 1, api.ErrBounds}, {one, nil, 0, api.ErrSize}, {one, bind("m", 3), 0, api.ErrSize}, {one, bind("n", 3, "n", 3), 0, api.ErrSize}, {one, bind("n", 0), 0, api.ErrSize}, {one, bind("n", 4097), 0, api.ErrSize}, {one, bind("n", -1), 0, api.ErrSize}, {one, bind("n", 4096), 1, api.ErrBounds},
		{two, bind("m", 5, "n", 4), 0, 0}, {two, bind("n", 5, "m", 4), 0, api.ErrConstraint}, {two, bind("n", 2, "m", 4), 2, api.ErrSize}, {two, bind("n", 3, "m", 1366), 2, api.ErrSize}, {two, bind("n", 1000, "m", 1000), 2, api.ErrLimit}, {two, bind("n", 3, "n", 4), 0, api.ErrSize}, {two, bind("n", 3, "m", 1365), 0, 0},
		{guard, bind("n", 3), 0, 0}, {guard, bind("n", 9), 0, 0}, {"size n; in a: frac[n]; def b: frac[i < n] = if([3] < [i], a[i], a[i + 3]);", bind("n", 9), 0, 0}, {"size n; in a: frac[n]; def b: frac[i < n] = if([3] < [i], a[i], a[i + 3]);", bind("n", 6), 3, api.ErrBounds}, {"size n; in a: frac[n]; in t: int[n]; def b: frac[i < n] = a[t[i - 1]];", bind("n", 6), 0, api.ErrBounds},
		{wild, bind("n", 1), 0, 0}, {wild, bind("n", 2), 5, api.ErrBounds}, {wild, bind("n", 3), 5, api.ErrBounds}, {wild, bind("n", 4), 0, api.ErrRange}, {"size n; in a: frac[n]; def b: frac[i < n] = a[4611686018427387904*i];", bind("n", 3), 0, api.ErrRange}, {"size n; in a: frac[n]; def b: frac[i < n] = a[4611686018427387904*i];", bind("n", 2), 1, api.ErrBounds}, {"size n; in a: frac[n]; def b: frac[i < n] = if([i] < [1], a[-4611686018427387904*i], a[0]);", bind("n", 3), 0, 0}, {"size n; in a: frac[n]; def b: frac[i < n] = if([1] <= [0], a[n + 1], a[0]);", bind("n", 3), 0, 0},
		{"size n; where 0 <= 9223372036854775807*n; def a: int[] = int(1);", bind("n", 2), 0, api.ErrRange}, {"size n; in a: frac[n]; def b: frac[i < 9223372036854775807*n] = a[0];", bind("n", 2), 0, api.ErrRange}, {"size n; def b: int[i < n - 5] = int(1);", bind("n", 2), 0, 0}, {"def a: int[] = int(1); def b: int[i < 9] = a[]; def c: int[i < 8] = b[i + 1]; def d: int[] = c[8];", nil, 3, api.ErrBounds},
	} {
		if at, err := bounds.CheckSizes(parse(t, x.s), x.sizes); at != x.at || err != x.err {
			t.Errorf("case %d, %q, %v: %d, %v; want %d, %v", k, x.s, x.sizes, at, err, x.at, x.err)
		}
	}
	if at, err := bounds.CheckSizes(api.Prog{Outs: []string{"x"}}, nil); at != 2 || err != api.ErrNotFound {
		t.Error(at, err)
	}
}

// TestProofsHold holds P18.6: what is proved holds for all sizes.
func TestProofsHold(t *testing.T) {
	forms := []string{"i", "i + 1", "i - 1", "n - 1 - i", "2*i", "i + j", "j", "m - 1", "n - m", "0", "j - i"}
	conds := []string{"[i] < [m]", "int(1) <= [i]", "[i + j] < [n]", "!([i] <= [j])", "[n] == [m]", "[i + 1] < [n] & [0] < [j]"}
	proved := 0
	for _, f := range forms {
		for _, c := range conds {
			p := parse(t, "size n, m; in a: frac[n]; def b: frac[i < n] = sum j < m: if("+c+", a["+f+"], a[i]);")
			proofs, _, err := bounds.Prove(p, full)
			if err != api.OK {
				continue
			}
			proved++
			if at, err := bounds.CheckProofs(p, proofs); err != api.OK {
				t.Errorf("%s, %s: proof %d: %v", f, c, at, err)
			}
			for n := 1; n <= 4; n++ {
				for m := 1; m <= 4; m++ {
					if at, err := bounds.CheckSizes(p, bind("n", n, "m", m)); err != api.OK {
						t.Errorf("%s, %s with %d, %d: %d, %v", f, c, n, m, at, err)
					}
				}
			}
		}
	}
	if proved < 20 {
		t.Errorf("only %d proofs", proved)
	}
}
