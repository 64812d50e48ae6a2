package unroll_test

import (
	"slices"
	"strings"
	"testing"

	"brocade/api"
	"brocade/interp"
	"brocade/loopnest"
	"brocade/nesttext"
	"brocade/tensor"
	"brocade/unroll"
)

func parse(t *testing.T, s string) api.Nest {
	t.Helper()
	n, ok := nesttext.Parse(s)
	if !ok {
		t.Fatalf("%q is no nest", s)
	}
	return n
}

const bufs = "a: frac[6] in; c: frac[6] out; s: frac[] temp; "

func flat(n api.Nest) string {
	return strings.Join(strings.Fields(loopnest.Format(api.Nest{Body: n.Body})), " ")
}

func memory(t *testing.T, n api.Nest) []api.Named {
	x := api.Tensor{Type: api.Type{Kind: api.KFrac}, Dims: []int{6}}
	for i := range 6 {
		x.Vals = append(x.Vals, api.Val{N: int64(i*i - 7), D: 1})
	}
	mem, err := interp.InitMemory(n, []api.Named{{Name: "a", Tensor: x}})
	if err != api.OK {
		t.Fatal(err)
	}
	return mem
}

func same(a, b []api.Named) bool {
	return slices.EqualFunc(a, b, func(x, y api.Named) bool { return x.Name == y.Name && tensor.Same(x.Tensor, y.Tensor) })
}

func TestUnroll(t *testing.T) {
	for _, x := range []struct {
		s, loop, want string
		err           api.Errno
	}{
		{"for i < 2 { c[i] = a[i] }", "i", "c[0] = a[0] c[1] = a[1]", 0}, {"s[] = a[0]; for z < 2 { for i < 2 parallel { if [i] < [z] { c[i + z] = a[2*i] }; s[] sum= a[i] } }; s[] = a[1]", "i", "s[] = a[0] for z < 2 { if [0] < [z] { c[z] = a[0] } s[] sum= a[0] if [1] < [z] { c[z + 1] = a[2] } s[] sum= a[1] } s[] = a[1]", 0}, {"for i < 64 { }", "i", "", 0}, {"for i < 3 { c[i + 4] = a[0] }", "i", "c[4] = a[0] c[5] = a[0] c[6] = a[0]", 0}, {"for i < 3 { c[0] = frac(1) / a[i - i] }", "i", "c[0] = frac(1) / a[0] c[0] = frac(1) / a[0] c[0] = frac(1) / a[0]", 0},
		{"c[q] = a[0]", "i", "", api.ErrNotFound}, {"for i < 2 { }", "q", "", api.ErrLoop}, {"for i < 99 { for j < 2 { } }", "i", "", api.ErrLoop}, {"for i < 65 { c[0] = a[0] }", "i", "", api.ErrLimit}, {"for i < 3 { c[9223372036854775807*i] = a[0] }", "i", "", api.ErrRange}, {"for i < 64 { " + strings.Repeat("s[] = a[0]; ", 32) + "}", "i", "", api.ErrLimit},
	} {
		n := parse(t, bufs+x.s)
		got, err := unroll.Unroll(n, x.loop)
		if err != x.err || flat(got) != x.want {
			t.Errorf("Unroll(%q) = %q, %v", x.s, flat(got), err)
		}
		if err == api.OK {
			one, _, e1 := interp.Run(n, memory(t, n), api.MaxSteps)
			two, _, e2 := interp.Run(got, memory(t, n), api.MaxSteps)
			if e1 != e2 || !same(one, two) {
				t.Errorf("%q: %v and %v", x.s, e1, e2)
			}
		}
	}
}

func TestAnnotate(t *testing.T) {
	for _, x := range []struct {
		s, loop string
		mark    int
		err     api.Errno
	}{
		{"for i < 4 { c[i] = a[i] }", "i", api.MPar, 0}, {"for i < 4 { c[i] = a[i] }", "i", api.MVec, 0}, {"for i < 16 { c[0] = a[0] }", "i", api.MUnroll, 0}, {"for i < 17 { c[0] = a[0] }", "i", api.MUnroll, api.ErrLimit}, {"for i < 4 parallel { c[0] = a[i] }", "i", api.MNone, 0}, {"for i < 4 { s[] sum= a[i] }", "i", api.MPar, 0}, {"for i < 3 { c[i + 1] = c[i] }", "i", api.MPar, api.ErrDependence}, {"for i < 3 { c[i + 1] = c[i] }", "i", api.MVec, api.ErrDependence}, {"for i < 3 { c[i + 1] = c[i] }", "i", api.MUnroll, 0}, {"for i < 2 { for j < 3 { c[i] = a[j] } }", "i", api.MPar, 0}, {"for i < 2 { for j < 3 { c[i] = a[j] } }", "i", api.MVec, api.ErrLoop}, {"for i < 2 { for j < 3 { c[i] = a[j] } }", "j", api.MVec, api.ErrDependence},
		{"c[q] = a[0]", "i", 9, api.ErrNotFound}, {"for i < 4 { }", "q", 9, api.ErrLoop}, {"for i < 99 { }", "i", 4, api.ErrArg}, {"for i < 4 { }", "i", -1, api.ErrArg}, {"for i < 4 { }; if a[0] < a[1] { }", "i", api.MPar, api.ErrDependence}, {"for i < 2049 { s[] sum= a[0] }", "i", api.MPar, api.ErrLimit},
	} {
		n := parse(t, bufs+x.s)
		got, err := unroll.Annotate(n, x.loop, x.mark)
		if check := unroll.CheckAnnotation(n, x.loop, x.mark); err != x.err || check != x.err {
			t.Errorf("%q, mark %d: %v, %v; want %v", x.s, x.mark, err, check, x.err)
		}
		if err != api.OK {
			if !loopnest.Same(got, api.Nest{}) {
				t.Errorf("%q: a nest beside an error", x.s)
			}
			continue
		}
		way, _ := loopnest.Find(n, x.loop)
		s, _ := loopnest.At(n, way)
		s.Mark = x.mark
		if want, _ := loopnest.Replace(n, way, s); !loopnest.Same(got, want) {
			t.Errorf("%q, mark %d: %q", x.s, x.mark, flat(got))
		}
	}
}

func TestRunPermuted(t *testing.T) {
	n := parse(t, bufs+"for z < 2 { for i < 3 { c[i + z] = a[i]; s[] sum= a[i] }; c[5] = c[z] }")
	mem := memory(t, n)
	plain, _, _ := interp.Run(n, mem, 99)
	got, err := unroll.RunPermuted(n, mem, "i", []int{0, 1, 2}, 99)
	if !same(got, plain) || err != api.OK {
		t.Error(got, err)
	}
	if got, err = unroll.RunPermuted(n, mem, "z", []int{1, 0}, 99); err != api.OK || tensor.Format(got[1].Tensor) != "[-7, -6, -3, -3, 0, -7]" {
		t.Error(tensor.Format(got[1].Tensor), err)
	}
	for _, x := range []struct {
		s, loop string
		order   []int
		fuel    int
		mem     []api.Named
		err     api.Errno
	}{{"c[q] = a[0]", "i", nil, 9, mem, api.ErrNotFound}, {"for i < 2 { }", "q", nil, -1, nil, api.ErrLoop}, {"for i < 2 { }", "i", []int{0}, -1, nil, api.ErrArg}, {"for i < 2 { }", "i", []int{0}, 9, mem, api.ErrArg}, {"for i < 2 { }", "i", []int{0, 1, 2}, 9, mem, api.ErrArg}, {"for i < 2 { }", "i", nil, 9, mem, api.ErrArg}, {"for i < 2 { }", "i", []int{0, 0}, 9, mem, api.ErrArg}, {"for i < 2 { }", "i", []int{0, 2}, 9, mem, api.ErrArg}, {"for i < 2 { }", "i", []int{-1, 0}, 9, mem, api.ErrArg}, {"for i < 2 { }", "i", []int{1, 0}, -1, nil, api.ErrArg}, {"for i < 2 { }", "i", []int{1, 0}, 9, nil, api.ErrNotFound}, {"for i < 2 { }", "i", []int{1, 0}, 1, mem, api.ErrFuel}, {"for i < 2 { c[5 + i] = frac(1) / s[] }", "i", []int{1, 0}, 9, mem, api.ErrDivide}, {"for i < 2 { c[5 + i] = frac(1) / (a[0] + frac(6) + cast(frac, [i])) }", "i", []int{1, 0}, 9, mem, api.ErrDivide}, {"for i < 2 { c[5 + i] = frac(1) / (a[0] + frac(6) + cast(frac, [i])) }", "i", []int{0, 1}, 9, mem, api.ErrDivide}} {
		if got, err := unroll.RunPermuted(parse(t, bufs+x.s), x.mem, x.loop, x.order, x.fuel); err != x.err || len(got) != 0 {
			t.Errorf("%q in the order %v: %v, %v", x.s, x.order, got, err)
		}
	}
	// A loop that may be parallel gives the same memory in every order (P39.4).
	m := parse(t, bufs+"for i < 4 { c[i] = a[i] * a[i + 1]; s[] sum= c[i] }")
	if err := unroll.CheckAnnotation(m, "i", api.MPar); err != api.OK {
		t.Fatal(err)
	}
	want, _, _ := interp.Run(m, mem, 99)
	for _, order := range [][]int{{3, 2, 1, 0}, {1, 3, 0, 2}, {2, 0, 3, 1}} {
		if got, err := unroll.RunPermuted(m, mem, "i", order, 99); err != api.OK || !same(got, want) {
			t.Errorf("%v: %v", order, err)
		}
	}
}
