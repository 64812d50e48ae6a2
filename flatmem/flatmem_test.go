package flatmem_test

import (
	"math"
	"slices"
	"strings"
	"testing"

	"brocade/api"
	"brocade/arena"
	"brocade/flatmem"
	"brocade/interp"
	"brocade/liveness"
	"brocade/nesttext"
	"brocade/tensor"
)

func parse(t *testing.T, s string) api.Nest {
	t.Helper()
	n, ok := nesttext.Parse(s)
	if !ok {
		t.Fatalf("%q is no nest", s)
	}
	return n
}

const bufs = "a: frac[2, 3] in; t: frac[3] temp; u: frac[3] temp; k: int[3] temp; o: frac[3] out; s: frac[] out; "

func input() []api.Named {
	x := api.Tensor{Type: api.Type{Kind: api.KFrac}, Dims: []int{2, 3}}
	for i := range 6 {
		x.Vals = append(x.Vals, api.Val{N: int64(i*i - 7), D: 1})
	}
	return []api.Named{{Name: "a", Tensor: x}}
}

func show(l []api.Named) string {
	var b strings.Builder
	for _, x := range l {
		b.WriteString(x.Name + "=" + tensor.Format(x.Tensor) + ";")
	}
	return b.String()
}

func TestOffset(t *testing.T) {
	n := parse(t, bufs)
	slots := []api.Slot{{Name: "a", At: 10, Len: 6}, {Name: "t", At: -1}, {Name: "u", At: api.MaxNum + 1}, {Name: "a", At: 0}, {Name: "s", At: api.MaxNum}, {Name: "z", At: 0}}
	for _, x := range []struct {
		buf  string
		p    []int
		want int
		err  api.Errno
	}{{"a", []int{1, 2}, 15, 0}, {"a", []int{0, 0}, 10, 0}, {"s", nil, api.MaxNum, 0}, {"q", nil, 0, api.ErrNotFound}, {"z", nil, 0, api.ErrNotFound}, {"k", nil, 0, api.ErrNotFound}, {"t", nil, 0, api.ErrNoSpace}, {"u", nil, 0, api.ErrNoSpace}, {"a", []int{0}, 0, api.ErrRank}, {"a", []int{0, 3}, 0, api.ErrBounds}, {"a", []int{-1, 0}, 0, api.ErrBounds}} {
		if got, err := flatmem.Offset(n, slots, x.buf, x.p); got != x.want || err != x.err {
			t.Errorf("Offset(%s, %v) = %d, %v", x.buf, x.p, got, err)
		}
	}
}

// TestRun holds P46.4 with the planned slots and with slots of no overlap.
func TestRun(t *testing.T) {
	for _, s := range []string{
		"", "for i < 3 { t[i] = a[0, i] }; for j < 3 { u[j] = t[j] * frac(2) }; for l < 3 { o[l] = u[2 - l] }", "for i < 3 { t[i] = a[1, i] }; s[] = t[0]; for j < 3 { u[j] sum= frac(1) }; for l < 3 { k[l] sum= [2*l] }; for m < 3 { o[m] = u[k[m]] + cast(frac, k[m]) }", "o[0] = a[0, 0]; t[0] = frac(5); o[1] = t[0] + t[1]; u[2] = frac(3); s[] = u[2] + u[0] + o[0]", "if a[0, 0] < frac(0) { for i < 3 { o[i] = frac(1) / a[1, i] } }; s[] = o[3]", "for i < 3 { o[i] = frac(1) / t[i] }",
	} {
		n := parse(t, bufs+s)
		mem, err := interp.InitMemory(n, input())
		if err != api.OK {
			t.Fatal(err)
		}
		lives, _ := liveness.Analyze(n)
		var apart []api.Slot
		at := 0
		for _, x := range lives {
			apart = append(apart, api.Slot{Name: x.Name, At: at, Len: x.Size})
			at += x.Size
		}
		for fuel := range 40 {
			final, steps, err := interp.Run(n, mem, fuel)
			want := show(interp.Outputs(n, final))
			one, s1, e1 := flatmem.PlanAndRun(n, input(), fuel)
			two, s2, e2 := flatmem.Run(n, apart, at, input(), fuel)
			if show(one) != want || show(two) != want || s1 != steps || s2 != steps || e1 != err || e2 != err {
				t.Errorf("%q with fuel %d: %s, %d, %v; %s, %d, %v; want %s, %d, %v", s, fuel, show(one), s1, e1, show(two), s2, e2, want, steps, err)
			}
		}
	}
}

func TestSharing(t *testing.T) {
	n := parse(t, bufs+"for i < 3 { t[i] = a[0, i] }; for j < 3 { u[j] = t[j] * frac(2) }; for l < 3 { o[l] sum= u[l] }")
	lives, _ := liveness.Analyze(n)
	slots, size, _ := arena.Plan(lives)
	if size >= 6+3+3+3+3+1 {
		t.Errorf("the plan has %d cells", size)
	}
	got, _, err := flatmem.Run(n, slots, size, input(), 99)
	if show(got) != "o=[-14, -12, -6];s=0;" || err != api.OK {
		t.Error(show(got), err)
	}
}

func TestErrors(t *testing.T) {
	n := parse(t, bufs)
	lives, _ := liveness.Analyze(n)
	slots, size, _ := arena.Plan(lives)
	short := slices.Clone(slots)
	short[1].Len = 2
	for k, x := range []struct {
		n     api.Nest
		slots []api.Slot
		size  int
		ins   []api.Named
		fuel  int
		err   api.Errno
	}{{parse(t, bufs+"o[0] = q[]"), nil, -1, nil, -1, api.ErrNotFound}, {n, nil, -1, nil, -1, api.ErrNotFound}, {n, nil, api.MaxSteps + 1, input(), -1, api.ErrArg}, {n, nil, api.MaxSteps + 1, input(), api.MaxSteps + 1, api.ErrArg}, {n, nil, api.MaxSteps + 1, input(), 1, api.ErrLimit}, {n, nil, 9, input(), 1, api.ErrSize}, {n, short, size, input(), 1, api.ErrArg}, {n, slots, size - 1, input(), 1, api.ErrNoSpace}, {n, slots, math.MinInt, input(), 1, api.ErrNoSpace}, {n, slots, size, input(), 1, 0}, {n, slots, size, input(), api.MaxSteps, 0}, {api.Nest{}, nil, -5, nil, 1, 0}, {n, slots, api.MaxSteps, input(), 1, 0}} {
		if got, steps, err := flatmem.Run(x.n, x.slots, x.size, x.ins, x.fuel); err != x.err || steps != 0 || err != api.OK && len(got) != 0 {
			t.Errorf("case %d: %v, %v; want %v", k, got, err, x.err)
		}
	}
	if got, _, err := flatmem.PlanAndRun(parse(t, bufs+"o[0] = q[]"), nil, -1); len(got) != 0 || err != api.ErrNotFound {
		t.Error(got, err)
	}
	if got, _, err := flatmem.PlanAndRun(n, input(), -1); len(got) != 0 || err != api.ErrArg {
		t.Error(got, err)
	}
	for i := range slots {
		slots[i].At = 0
	}
	if _, _, err := flatmem.Run(n, slots, 50, input(), 1); err != api.ErrOverlap {
		t.Error(err)
	}
}
