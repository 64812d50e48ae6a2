package fusion_test

import (
	"strings"
	"testing"

	"brocade/api"
	"brocade/fusion"
	"brocade/interp"
	"brocade/loopnest"
	"brocade/nesttext"
	"brocade/tensor"
)

func parse(t *testing.T, s string) api.Nest {
	t.Helper()
	n, ok := nesttext.Parse(s)
	if !ok {
		t.Fatalf("%q is no nest", s)
	}
	return n
}

const bufs = "x: frac[6] in; a: frac[6] temp; b: frac[6] out; s: frac[] out; "

func flat(n api.Nest) string {
	return strings.Join(strings.Fields(loopnest.Format(api.Nest{Body: n.Body})), " ")
}

// check compares a result, and holds that it computes the same memory (P38.4).
func check(t *testing.T, what string, n, got api.Nest, err api.Errno, want string, code api.Errno, grown int) {
	t.Helper()
	if err != code || err == api.OK && flat(got) != want || err != api.OK && !loopnest.Same(got, api.Nest{}) {
		t.Errorf("%s of %q = %q, %v; want %q, %v", what, flat(n), flat(got), err, want, code)
	}
	if err != api.OK {
		return
	}
	x := api.Tensor{Type: api.Type{Kind: api.KFrac}, Dims: []int{6}}
	for i := range 6 {
		x.Vals = append(x.Vals, api.Val{N: int64(i*i - 7), D: 1})
	}
	mem, _ := interp.InitMemory(n, []api.Named{{Name: "x", Tensor: x}})
	one, _, e1 := interp.Run(n, mem, api.MaxSteps)
	two, _, e2 := interp.Run(got, mem, api.MaxSteps)
	if e1 != api.OK || e2 != api.OK || loopnest.Size(got) != loopnest.Size(n)+grown {
		t.Fatalf("%s of %q: %v and %v", what, flat(n), e1, e2)
	}
	for i := range one {
		if !tensor.Same(one[i].Tensor, two[i].Tensor) {
			t.Errorf("%s of %q changes %s", what, flat(n), one[i].Name)
		}
	}
}

func TestFuse(t *testing.T) {
	for _, x := range []struct {
		s, first, want string
		err            api.Errno
	}{
		{"for i < 4 { a[i] = x[i] }; for j < 4 { b[j] = a[j] }", "i", "for i < 4 { a[i] = x[i] b[i] = a[i] }", 0}, {"s[] = x[0]; for z < 2 { for i < 4 vector { a[i] = x[i] }; for j < 4 parallel { b[2*j - j] = a[j]; for k < 2 { s[] sum= x[j + k] } }; b[5] = a[0] }", "i", "s[] = x[0] for z < 2 { for i < 4 vector { a[i] = x[i] b[i] = a[i] for k < 2 { s[] sum= x[i + k] } } b[5] = a[0] }", 0}, {"for i < 4 { }; for j < 4 { }", "i", "for i < 4 { }", 0},
		{"for i < 4 { a[i] = x[i] }; for j < 4 { b[j] = a[3 - j] }", "i", "", api.ErrDependence}, {"for i < 4 { a[i] = x[i] }; for j < 3 { b[j] = a[j] }", "i", "", api.ErrSize}, {"for i < 4 { a[i] = x[i] }; for j < 4 { b[j] = a[j] }", "j", "", api.ErrLoop}, {"for i < 4 { a[i] = x[i] }; for j < 4 { b[j] = a[j] }", "q", "", api.ErrLoop}, {"for i < 4 { a[i] = x[i] }; s[] = x[0]; for j < 4 { b[j] = a[j] }", "i", "", api.ErrLoop}, {"for z < 1 { for i < 4 { a[i] = x[i] } }; for j < 4 { b[j] = a[j] }", "i", "", api.ErrLoop}, {"a[q] = x[0]", "i", "", api.ErrNotFound},
	} {
		n := parse(t, bufs+x.s)
		got, err := fusion.Fuse(n, x.first)
		check(t, "Fuse", n, got, err, x.want, x.err, -1)
		if err == api.OK && len(n.Body) == 2 && len(n.Body[0].Body) > 0 {
			back, err := fusion.Distribute(got, x.first, len(n.Body[0].Body))
			back.Body[1].Body = loopnest.Rename(back.Body[1].Body, back.Body[1].Name, "j")
			back.Body[1].Name = "j"
			if err != api.OK || !loopnest.Same(back, n) {
				t.Errorf("%q and back: %q, %v", x.s, flat(back), err)
			}
		}
	}
}

func TestDistribute(t *testing.T) {
	three := "for i < 4 parallel { a[i] = x[i]; b[i] = a[i]; s[] sum= x[i] }"
	for _, x := range []struct {
		s, loop string
		at      int
		want    string
		err     api.Errno
	}{
		{three, "i", 1, "for i < 4 parallel { a[i] = x[i] } for i1 < 4 parallel { b[i1] = a[i1] s[] sum= x[i1] }", 0}, {three, "i", 2, "for i < 4 parallel { a[i] = x[i] b[i] = a[i] } for i1 < 4 parallel { s[] sum= x[i1] }", 0}, {"for i1 < 2 { for i < 3 { for i2 < 1 { a[i] = x[i] }; b[i1] = x[0] } }", "i", 1, "for i1 < 2 { for i < 3 { for i2 < 1 { a[i] = x[i] } } for i3 < 3 { b[i1] = x[0] } }", 0},
		{three, "i", 0, "", api.ErrArg}, {three, "i", 3, "", api.ErrArg}, {three, "i", -1, "", api.ErrArg}, {three, "q", 0, "", api.ErrLoop}, {"for abcdefghijklmnop < 2 { a[0] = x[0]; b[0] = x[0] }", "abcdefghijklmnop", 1, "", api.ErrName}, {"for abcdefghijklmnop < 2 { a[0] = x[0] }", "abcdefghijklmnop", 1, "", api.ErrArg}, {"for i < 4 { a[0] = x[i]; b[i] = a[0] }", "i", 1, "", api.ErrDependence}, {"a[q] = x[0]", "i", 1, "", api.ErrNotFound},
	} {
		n := parse(t, bufs+x.s)
		got, err := fusion.Distribute(n, x.loop, x.at)
		check(t, "Distribute", n, got, err, x.want, x.err, 1)
	}
}

func TestComputeAt(t *testing.T) {
	pair := "for i < 4 vector { a[i] = x[i] }; for j < 4 parallel { b[j] = a[j] }"
	for _, x := range []struct {
		s, loop, into, want string
		err                 api.Errno
	}{
		{pair, "i", "j", "for j < 4 parallel { a[j] = x[j] b[j] = a[j] }", 0}, {"for z < 2 { " + pair + "; s[] = x[0] }", "i", "j", "for z < 2 { for j < 4 parallel { a[j] = x[j] b[j] = a[j] } s[] = x[0] }", 0}, {"for i < 4 { a[i] = x[i] }; for j < 4 { b[j] = a[j + 1] }", "i", "j", "", api.ErrDependence},
		{pair, "j", "i", "", api.ErrLoop}, {pair, "i", "q", "", api.ErrLoop}, {pair, "q", "j", "", api.ErrLoop}, {pair, "i", "i", "", api.ErrLoop}, {"for i < 4 { a[i] = x[i] }; for k < 1 { }; for j < 4 { b[j] = a[j] }", "i", "j", "", api.ErrLoop}, {"for i < 4 { a[i] = x[i] }; for j < 5 { b[j] = a[j] }", "i", "j", "", api.ErrSize}, {"a[q] = x[0]", "i", "j", "", api.ErrNotFound},
	} {
		n := parse(t, bufs+x.s)
		got, err := fusion.ComputeAt(n, x.loop, x.into)
		check(t, "ComputeAt", n, got, err, x.want, x.err, -1)
	}
}
