package reorder_test

import (
	"strings"
	"testing"

	"brocade/api"
	"brocade/interp"
	"brocade/loopnest"
	"brocade/nesttext"
	"brocade/reorder"
	"brocade/tensor"
)

func parse(t *testing.T, s string) api.Nest {
	t.Helper()
	n, ok := nesttext.Parse(s)
	if !ok {
		t.Fatalf("%q is no nest", s)
	}
	return n
}

const bufs = "a: frac[6] in; c: frac[6, 6] out; p: frac[6] out; f: fix(8, 4, even, sat)[] temp; y: fix(8, 4, even, sat)[6] temp; "

func flat(n api.Nest) string {
	return strings.Join(strings.Fields(loopnest.Format(api.Nest{Body: n.Body})), " ")
}

// check compares a result, and holds that it computes the same memory (37.5).
func check(t *testing.T, what string, n, got api.Nest, err api.Errno, want string, code api.Errno) {
	t.Helper()
	if err != code || err == api.OK && flat(got) != want || err != api.OK && !loopnest.Same(got, api.Nest{}) {
		t.Errorf("%s of %q = %q, %v; want %q, %v", what, flat(n), flat(got), err, want, code)
	}
	if err != api.OK {
		return
	}
	x := api.Tensor{Type: api.Type{Kind: api.KFrac}, Dims: []int{6}}
	for i := range 6 {
		x.Vals = append(x.Vals, api.Val{N: int64(i*i - 7), D: 1})
	}
	mem, _ := interp.InitMemory(n, []api.Named{{Name: "a", Tensor: x}})
	one, _, e1 := interp.Run(n, mem, api.MaxSteps)
	two, _, e2 := interp.Run(got, mem, api.MaxSteps)
	if e1 != api.OK || e2 != api.OK {
		t.Fatalf("%s of %q: %v and %v", what, flat(n), e1, e2)
	}
	for i := range one {
		if !tensor.Same(one[i].Tensor, two[i].Tensor) {
			t.Errorf("%s of %q changes %s", what, flat(n), one[i].Name)
		}
	}
}

const two = "for i < 2 { for j < 3 { c[i, j] = a[i] } }"

func TestInterchange(t *testing.T) {
	for _, x := range []struct {
		s, outer, want string
		err            api.Errno
	}{
		{two, "i", "for j < 3 { for i < 2 { c[i, j] = a[i] } }", 0}, {"p[0] = a[0]; for z < 1 parallel { for i < 2 parallel { for j < 3 vector { p[i] sum= a[j]; c[i, j] = p[5] } } }", "i", "p[0] = a[0] for z < 1 parallel { for j < 3 { for i < 2 { p[i] sum= a[j] c[i, j] = p[5] } } }", 0}, {"for i < 2 { for j < 3 { p[i + 1] = p[i] } }", "i", "", api.ErrDependence}, {"for i < 2 { for j < 3 { p[j] = a[i] } }", "i", "for j < 3 { for i < 2 { p[j] = a[i] } }", 0}, {"for i < 2 { for j < 3 { p[i + j] = a[i] } }", "i", "", api.ErrDependence},
		{"p[q] = a[0]", "i", "", api.ErrNotFound}, {two, "j", "", api.ErrLoop}, {two, "q", "", api.ErrLoop}, {"for i < 2 { for j < 3 { }; p[0] = a[0] }", "i", "", api.ErrLoop}, {"for i < 2 { if a[0] < a[1] { for j < 3 { p[0] = a[0] } } }", "i", "", api.ErrLoop}, {two + "; if a[0] < a[1] { }", "i", "", api.ErrDependence},
	} {
		n := parse(t, bufs+x.s)
		got, err := reorder.Interchange(n, x.outer)
		check(t, "Interchange", n, got, err, x.want, x.err)
		if err == api.OK && !strings.Contains(x.s, "parallel") {
			back, err := reorder.Interchange(got, "j")
			if err != api.OK || !loopnest.Same(back, n) {
				t.Errorf("%q and back: %q, %v", x.s, flat(back), err)
			}
		}
	}
}

func TestPermute(t *testing.T) {
	three := "for z < 1 { for i < 2 { for j < 3 vector { for k < 2 { c[i, j] sum= a[k + j]; p[j] sum= a[i] } } } }"
	for _, x := range []struct {
		s     string
		loops []string
		want  string
		err   api.Errno
	}{
		{three, []string{"k", "i", "j"}, "for z < 1 { for k < 2 { for i < 2 { for j < 3 { c[i, j] sum= a[j + k] p[j] sum= a[i] } } } }", 0}, {three, []string{"j", "i"}, "for z < 1 { for j < 3 { for i < 2 { for k < 2 { c[i, j] sum= a[j + k] p[j] sum= a[i] } } } }", 0}, {three, []string{"z", "i", "j", "k"}, "for z < 1 { for i < 2 { for j < 3 { for k < 2 { c[i, j] sum= a[j + k] p[j] sum= a[i] } } } }", 0}, {three, []string{"j"}, "for z < 1 { for i < 2 { for j < 3 { for k < 2 { c[i, j] sum= a[j + k] p[j] sum= a[i] } } } }", 0},
		{"p[q] = a[0]", nil, "", api.ErrNotFound}, {three, nil, "", api.ErrLoop}, {three, []string{"q", "q"}, "", api.ErrDuplicate}, {three, []string{"i", "q"}, "", api.ErrLoop}, {three, []string{"q"}, "", api.ErrLoop}, {three, []string{"i", "k"}, "", api.ErrLoop}, {"for i < 2 { p[i] = a[i] }; for j < 2 { p[j] = a[j] }", []string{"i", "j"}, "", api.ErrLoop}, {"for i < 2 { for j < 3 { p[i + j] = a[i] } }", []string{"j", "i"}, "", api.ErrDependence},
	} {
		n := parse(t, bufs+x.s)
		got, err := reorder.Permute(n, x.loops)
		check(t, "Permute", n, got, err, x.want, x.err)
	}
}

func TestReverse(t *testing.T) {
	for _, x := range []struct {
		s, loop, want string
		err           api.Errno
	}{
		{two, "j", "for i < 2 { for j < 3 { c[i, -j + 2] = a[i] } }", 0}, {two, "i", "for i < 2 { for j < 3 { c[-i + 1, j] = a[-i + 1] } }", 0}, {"for i < 3 parallel { p[0] sum= a[i] }", "i", "for i < 3 { p[0] sum= a[-i + 2] }", 0}, {"for i < 3 { f[] sum= y[i] }", "i", "", api.ErrDependence}, {"for i < 3 { f[] max= y[i] }", "i", "for i < 3 { f[] max= y[-i + 2] }", 0}, {"for i < 5 { p[i + 1] sum= p[i] }", "i", "", api.ErrDependence}, {"for i < 6 { p[i] = a[i]; if [0] < [i] { p[i] sum= p[i - 1] } }", "i", "", api.ErrDependence},
		{"p[q] = a[0]", "i", "", api.ErrNotFound}, {two, "q", "", api.ErrLoop}, {"for i < 3 { p[9223372036854775807*i] = a[0] }", "i", "", api.ErrRange}, {"for i < 2 { c[i - 1, i + 5] = a[0] }; if a[0] < a[1] { }", "i", "", api.ErrDependence},
	} {
		n := parse(t, bufs+x.s)
		got, err := reorder.Reverse(n, x.loop)
		check(t, "Reverse", n, got, err, x.want, x.err)
		if err == api.OK && !strings.Contains(x.s, "parallel") {
			if back, err := reorder.Reverse(got, x.loop); err != api.OK || !loopnest.Same(back, n) {
				t.Errorf("%q and back: %q, %v", x.s, flat(back), err)
			}
		}
	}
}

func TestSkew(t *testing.T) {
	for _, x := range []struct {
		s, outer   string
		by         int
		name, want string
		err        api.Errno
	}{
		{two, "i", 1, "k", "for i < 2 { for k < 4 { if [0] <= [-i + k] & [-i + k] < [3] { c[i, -i + k] = a[i] } } }", 0}, {"for z < 2 { for i < 3 vector { for j < 2 parallel { p[i + j] = p[j + 1]; f[] = y[j] } } }", "i", 2, "b", "for z < 2 { for i < 3 { for b < 6 { if [0] <= [b - 2*i] & [b - 2*i] < [2] { p[b - i] = p[b - 2*i + 1] f[] = y[b - 2*i] } } } }", 0}, {"for i < 2 { for j < 3 { p[i + j] = a[i] } }", "i", 64, "k", "for i < 2 { for k < 67 { if [0] <= [-64*i + k] & [-64*i + k] < [3] { p[-63*i + k] = a[i] } } }", 0},
		{"p[q] = a[0]", "i", 0, "", "", api.ErrNotFound}, {two, "q", 0, "", "", api.ErrLoop}, {two, "j", 0, "", "", api.ErrLoop}, {two, "i", 0, "", "", api.ErrArg}, {two, "i", 65, "", "", api.ErrArg}, {two, "i", 1, "K", "", api.ErrName}, {two, "i", 1, "j", "", api.ErrDuplicate}, {two, "i", 1, "i", "", api.ErrDuplicate}, {two, "i", 1, "a", "", api.ErrDuplicate}, {"for i < 1024 { for j < 66 { } }", "i", 64, "k", "", api.ErrLimit}, {"for i < 2 { for j < 3 { c[i, 9223372036854775807*j] = a[0] } }", "i", 2, "k", "", api.ErrRange}, {"for i < 2 { for j < 3 { " + strings.Repeat("if a[0] < a[1] { ", 37) + "p[0] = a[j]" + strings.Repeat(" }", 39), "i", 1, "k", "", api.ErrDepth},
	} {
		n := parse(t, bufs+x.s)
		got, err := reorder.Skew(n, x.outer, x.by, x.name)
		check(t, "Skew", n, got, err, x.want, x.err)
	}
	n, err := reorder.Skew(parse(t, bufs+"for i < 1024 { for j < 64 { } }"), "i", 64, "k")
	if want := "for i < 1024 { for k < 65536 { if [0] <= [-64*i + k] & [-64*i + k] < [64] { } } }"; flat(n) != want || err != api.OK {
		t.Error(flat(n), err)
	}
}
