package chain_test

import (
	"strings"
	"testing"

	"brocade/api"
	"brocade/chain"
	"brocade/checkpoint"
	"brocade/dual"
	"brocade/frac"
	"brocade/parser"
	"brocade/tensor"
	"brocade/value"
)

func parse(t *testing.T, s string) api.Prog {
	t.Helper()
	p, at, err := parser.Prog(s)
	if err != api.OK {
		t.Fatalf("%q: %d, %v", s, at, err)
	}
	return p
}

func vec(l string) api.Tensor {
	x := api.Tensor{Type: api.Type{Kind: api.KFrac}}
	for _, s := range strings.Fields(l) {
		v, _ := value.Parse(x.Type, s)
		x.Vals = append(x.Vals, v)
	}
	x.Dims = []int{len(x.Vals)}
	return x
}

func bind(n int64) []api.Binding { return []api.Binding{{Name: "n", Val: n}} }

const square = "size n; in x: frac[n]; def y: frac[i < n] = x[i] * x[i]; out y;"

func isZero(t api.Tensor) bool { return tensor.Same(t, api.Tensor{}) }

func TestValidate(t *testing.T) {
	for _, x := range []struct {
		s   string
		err api.Errno
	}{
		{square, 0}, {"out q;", api.ErrNotFound}, {"def y: frac[] = frac(1); out y;", api.ErrArg}, {"in x: frac[]; in z: frac[]; def y: frac[] = x[]; out y;", api.ErrArg}, {"in x: frac[]; def y: frac[] = x[];", api.ErrArg}, {"in x: frac[]; def y: frac[] = x[]; out x;", api.ErrArg}, {"in x: frac[]; def y: frac[] = x[]; out y, x;", api.ErrArg}, {"in x: int[]; def y: frac[] = frac(1); out y;", api.ErrType}, {"in x: frac[]; def y: int[i < 2] = int(1); out y;", api.ErrType}, {"in x: frac[]; def y: frac[i < 2] = x[]; out y;", api.ErrRank}, {"size n; in x: frac[n]; def y: frac[i < n + 1] = x[0]; out y;", api.ErrSize}, {"size n, m; where 0 == n - m; in x: frac[n]; def y: frac[i < m] = x[0]; out y;", api.ErrSize},
	} {
		p := parse(t, x.s)
		_, e1 := chain.Run(p, nil, api.Tensor{}, -1)
		_, e2 := chain.Pullback(p, nil, api.Tensor{}, api.Tensor{})
		_, _, e3 := chain.Grad(p, nil, api.Tensor{}, api.Tensor{}, -1, 0)
		_, _, e4 := chain.RunPlan(p, nil, api.Tensor{}, api.Tensor{}, -1, nil)
		for i, e := range []api.Errno{chain.Validate(p), e1, e2, e3, e4} {
			if e != x.err && x.err != api.OK || i == 0 && e != x.err {
				t.Errorf("%q: call %d returns %v", x.s, i, e)
			}
		}
	}
}

func TestErrors(t *testing.T) {
	p := parse(t, square)
	good, wrong := vec("3 1"), vec("3 1")
	wrong.Type.Kind = api.KInt
	for k, x := range []struct {
		n            int64
		x, g         api.Tensor
		steps, slots int
		err          api.Errno
	}{
		{0, api.Tensor{}, good, -1, 0, api.ErrArg}, {0, api.Tensor{}, good, 65, 0, api.ErrArg}, {0, api.Tensor{}, good, 1, 0, api.ErrSize}, {2, api.Tensor{}, wrong, 1, 0, api.ErrArg}, {2, wrong, api.Tensor{}, 1, 0, api.ErrType}, {3, good, api.Tensor{}, 1, 0, api.ErrSize}, {2, good, api.Tensor{}, 1, 0, api.ErrArg}, {2, good, wrong, 1, 0, api.ErrType}, {2, good, vec("1"), 1, 0, api.ErrSize}, {2, good, good, 64, 1, api.ErrRange}, {2, good, good, 1, 65, api.ErrArg}, {2, good, good, 1, -1, api.ErrArg},
	} {
		onlyG := x.err != api.OK && isZero(x.g) || x.slots != 0 || !isZero(x.g) && len(x.g.Vals) == 1 || tensor.Same(x.g, wrong) && tensor.Same(x.x, good)
		r, e1 := chain.Run(p, bind(x.n), x.x, x.steps)
		if !onlyG && (e1 != x.err || !isZero(r)) {
			t.Errorf("case %d: Run = %v, %v", k, r, e1)
		}
		g, c, e2 := chain.Grad(p, bind(x.n), x.x, x.g, x.steps, x.slots)
		if e2 != x.err || !isZero(g) || c != 0 {
			t.Errorf("case %d: Grad = %v, %d, %v", k, g, c, e2)
		}
		if x.slots == 0 {
			g, c, e3 := chain.RunPlan(p, bind(x.n), x.x, x.g, x.steps, []api.Action{{Op: 77}})
			if e3 != x.err || !isZero(g) || c != 0 {
				t.Errorf("case %d: RunPlan = %v, %d, %v", k, g, c, e3)
			}
			if x.steps == 1 {
				if g, e := chain.Pullback(p, bind(x.n), x.x, x.g); e != x.err || !isZero(g) {
					t.Errorf("case %d: Pullback = %v, %v", k, g, e)
				}
			}
		}
	}
	for l, code := range map[string]api.Errno{"": api.ErrEOF, "x": api.ErrSchedule} {
		plan := make([]api.Action, len(l))
		if _, c, err := chain.RunPlan(p, bind(2), good, good, 2, plan); err != code || c != 0 {
			t.Errorf("a plan of %d actions: %v", len(l), err)
		}
	}
	great := vec("2147483647 1")
	for steps, code := range map[int]api.Errno{0: api.OK, 1: api.ErrRange, 3: api.ErrRange} {
		if x, err := chain.Run(p, bind(2), great, steps); err != code || code != api.OK && !isZero(x) {
			t.Errorf("%d steps from a great number: %v, %v", steps, x, err)
		}
	}
	bound := parse(t, "size n; where 0 <= n - 3; in x: frac[n]; def y: frac[i < n] = x[i]; out y;")
	if _, err := chain.Run(bound, bind(2), good, 1); err != api.ErrConstraint {
		t.Error(err)
	}
	rigid := parse(t, "in x: frac[2]; def y: frac[i < 2] = prod j < 2: x[j]; out y;")
	if _, err := chain.Pullback(rigid, nil, good, good); err != api.ErrGradient {
		t.Error(err)
	}
	if g, c, err := chain.Grad(rigid, nil, good, good, 0, 0); !tensor.Same(g, good) || c != 0 || err != api.OK {
		t.Error("no step needs no derivative", g, c, err)
	}
	if _, _, err := chain.Grad(rigid, nil, good, good, 1, 0); err != api.ErrGradient {
		t.Error(err)
	}
	if g, c, err := chain.Grad(p, bind(2), good, good, 9, 0); !isZero(g) || c != 0 || err == api.OK {
		t.Error(g, c, err)
	}
}

func TestExample(t *testing.T) {
	p := parse(t, square)
	if r, err := chain.Run(p, bind(1), vec("3"), 2); tensor.Format(r) != "[81]" || err != api.OK {
		t.Error(r, err)
	}
	if r, err := chain.Run(p, bind(1), vec("3"), 0); tensor.Format(r) != "[3]" || err != api.OK {
		t.Error(r, err)
	}
	if r, err := chain.Pullback(p, bind(1), vec("3"), vec("1")); tensor.Format(r) != "[6]" || err != api.OK {
		t.Error(r, err)
	}
	if r, c, err := chain.Grad(p, bind(1), vec("3"), vec("1"), 2, 1); tensor.Format(r) != "[108]" || c != 1 || err != api.OK {
		t.Error(r, c, err)
	}
}

// TestPlans holds P29.6 and P29.7 for a chain with mixed terms.
func TestPlans(t *testing.T) {
	p := parse(t, "size n; in x: frac[n]; def u: frac[] = sum i < n: x[i]; def y: frac[i < n] = x[n - 1 - i] * frac(1/2) - if(x[i] < frac(0), x[0] * x[i], u[]) / frac(2); out y;")
	x, g, v := vec("1 -1/2 2"), vec("1 2 -1"), vec("1 0 1/3")
	for steps := range 4 {
		want, cost, err := chain.Grad(p, bind(3), x, g, steps, 0)
		if err != api.OK || cost != steps*(steps-1)/2 {
			t.Fatal(steps, cost, err)
		}
		for slots := range 5 {
			got, cost, err := chain.Grad(p, bind(3), x, g, steps, slots)
			best, _ := checkpoint.Cost(steps, slots)
			if !tensor.Same(got, want) || cost != best || err != api.OK {
				t.Errorf("%d steps, %d slots: %v, %d, %v", steps, slots, got, cost, err)
			}
		}
		// A wasteful plan gives the same gradient.
		var plan []api.Action
		for r := steps; r > 0; r-- {
			plan = append(plan, api.Action{Op: api.PRestore, Slot: -1}, api.Action{Op: api.PStore, Slot: 9})
			for at := 1; at < r; at++ {
				plan = append(plan, api.Action{Op: api.PAdvance, At: at})
			}
			plan = append(plan, api.Action{Op: api.PReverse, At: r}, api.Action{Op: api.PRestore, Slot: 9})
		}
		if got, cost, err := chain.RunPlan(p, bind(3), x, g, steps, plan); !tensor.Same(got, want) || cost != steps*(steps-1)/2 || err != api.OK {
			t.Errorf("%d steps: %v, %d, %v", steps, got, cost, err)
		}
		state, tangent := x, v
		for range steps {
			outs, tangents, err := dual.Run(p, bind(3), []api.Named{{Name: "x", Tensor: state}}, []api.Named{{Name: "x", Tensor: tangent}})
			if err != api.OK {
				t.Fatal(err)
			}
			state, tangent = outs[0].Tensor, tangents[0].Tensor
		}
		end, err := chain.Run(p, bind(3), x, steps)
		if !tensor.Same(end, state) || err != api.OK || dot(want, v) != dot(g, tangent) {
			t.Errorf("%d steps: %v and %v", steps, dot(want, v), dot(g, tangent))
		}
	}
}

func dot(a, b api.Tensor) api.Val {
	sum := api.Val{N: 0, D: 1}
	for i := range a.Vals {
		p, _ := frac.Mul(a.Vals[i], b.Vals[i])
		sum, _ = frac.Add(sum, p)
	}
	return sum
}
