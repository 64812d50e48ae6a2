package buffers_test

import (
	"strings"
	"testing"

	"brocade/api"
	"brocade/buffers"
	"brocade/interp"
	"brocade/loopnest"
	"brocade/nesttext"
	"brocade/tensor"
)

func parse(t *testing.T, s string) api.Nest {
	t.Helper()
	n, ok := nesttext.Parse(s)
	if !ok {
		t.Fatalf("%q is no nest", s)
	}
	return n
}

const bufs = "a: frac[3] in; d: frac[3] temp; m: frac[2, 3] temp; s: frac[] temp; c: frac[3] out; t: int[3] in; u: int[3] temp; "

func flat(n api.Nest) string {
	return strings.Join(strings.Fields(loopnest.Format(api.Nest{Body: n.Body})), " ")
}

// check compares a result, and holds that common buffers are the same (40.4).
func check(t *testing.T, what string, n, got api.Nest, err api.Errno, want string, code api.Errno) {
	t.Helper()
	if err != code || err == api.OK && flat(got) != want || err != api.OK && !loopnest.Same(got, api.Nest{}) {
		t.Errorf("%s of %q = %q, %v; want %q, %v", what, flat(n), flat(got), err, want, code)
	}
	if err != api.OK {
		return
	}
	var ins []api.Named
	for i, name := range []string{"a", "t"} {
		x := api.Tensor{Type: api.Type{Kind: []int{api.KFrac, api.KInt}[i]}, Dims: []int{3}}
		for k := range 3 {
			x.Vals = append(x.Vals, api.Val{N: int64(2*k + 1), D: 1})
		}
		ins = append(ins, api.Named{Name: name, Tensor: x})
	}
	run := func(n api.Nest) map[string]api.Tensor {
		mem, e1 := interp.InitMemory(n, ins)
		l, _, e2 := interp.Run(n, mem, api.MaxSteps)
		if e1 != api.OK || e2 != api.OK {
			t.Fatalf("%s: %q: %v, %v", what, flat(n), e1, e2)
		}
		r := map[string]api.Tensor{}
		for _, x := range l {
			r[x.Name] = x.Tensor
		}
		return r
	}
	one, two := run(n), run(got)
	for name, x := range one {
		if y, both := two[name]; both && !tensor.Same(x, y) {
			t.Errorf("%s of %q changes %s", what, flat(n), name)
		}
	}
}

func TestInline(t *testing.T) {
	for _, x := range []struct {
		s, buf, want string
		err          api.Errno
	}{
		{"for i < 3 { d[i] = a[i] + frac(1) }; for j < 2 { c[j] = d[j + 1] * frac(2) }", "d", "for j < 2 { c[j] = (a[j + 1] + frac(1)) * frac(2) }", 0}, {"for i < 2 { for j < 3 { m[i, j] = a[j] - cast(frac, [i - 2*j]) } }; for k < 2 { if m[k, 0] < m[0, k + 1] { c[k] sum= -m[1, 2*k] } }", "m", "for k < 2 { if a[0] - cast(frac, [k]) < a[k + 1] - cast(frac, [-2*k - 2]) { c[k] sum= -(a[2*k] - cast(frac, [-4*k + 1])) } }", 0}, {"for j < 3 { for i < 2 { m[i, j] = a[j] } }; c[0] = m[1, 2]", "m", "c[0] = a[2]", 0}, {"s[] = a[0]; c[0] = s[] * s[]; c[1] = s[]", "s", "c[0] = a[0] * a[0] c[1] = a[0]", 0}, {"c[0] = a[1]; for i < 3 { d[i] = c[i] }; s[] = a[0]", "d", "c[0] = a[1] s[] = a[0]", 0}, {"for i < 3 { u[i] = t[t[i]] }; for j < 2 { c[0] = cast(frac, u[j + 1]) }", "u", "for j < 2 { c[0] = cast(frac, t[t[j + 1]]) }", 0},
		{"c[q] = a[0]", "q", "", api.ErrNotFound}, {"", "q", "", api.ErrNotFound}, {"", "a", "", api.ErrArg}, {"", "c", "", api.ErrArg}, {"", "d", "", api.ErrDependence}, {"for i < 3 { d[i] = a[i] }; for j < 3 { d[j] = a[j] }; c[0] = d[0]", "d", "", api.ErrDependence}, {"for i < 3 { d[i] sum= a[i] }; c[0] = d[0]", "d", "", api.ErrDependence}, {"for i < 2 { d[i] = a[i] }; c[0] = d[0]", "d", "", api.ErrDependence}, {"for i < 3 { d[2 - i] = a[i] }; c[0] = d[0]", "d", "", api.ErrDependence}, {"for i < 3 { d[0] = a[i] }; c[0] = d[0]", "d", "", api.ErrDependence}, {"for i < 3 { if a[0] < a[1] { d[i] = a[i] } }; c[0] = d[0]", "d", "", api.ErrDependence}, {"for i < 3 { d[i] = a[i]; c[i] = a[i] }; c[0] = d[0]", "d", "", api.ErrDependence}, {"for z < 1 { for i < 3 { d[i] = a[i] } }; c[0] = d[0]", "d", "", api.ErrDependence}, {"for i < 3 { for j < 2 { m[j, j] = a[i] } }", "m", "", api.ErrDependence}, {"for i < 3 { d[t[i]] = a[i] }; c[0] = d[0]", "d", "", api.ErrDependence},
		{"for i < 3 { u[i] = t[i] }; c[u[0]] = a[0]", "u", "", api.ErrDependence}, {"for i < 3 { u[i] = t[i] }; c[0] = a[u[0]]", "u", "", api.ErrDependence}, {"for i < 3 { d[i] = a[i] }; c[0] = d[t[0]]", "d", "", api.ErrDependence}, {"c[0] = d[0]; for i < 3 { d[i] = a[i] }", "d", "", api.ErrDependence}, {"for i < 3 { d[i] = d[i] }; c[0] = d[0]", "d", "", api.ErrDependence}, {"for i < 3 { d[i] = c[i] }; for j < 3 { c[j] = d[j] }", "d", "", api.ErrDependence}, {"for i < 3 { d[i] = c[i] }; if a[0] < a[1] { c[0] sum= a[0] }; s[] = d[0]", "d", "", api.ErrDependence}, {"for i < 3 { u[i] = [9223372036854775807*i] }; for j < 2 { c[0] = cast(frac, u[2*j]) }", "u", "", api.ErrRange}, {"for i < 3 { d[i] = " + strings.Repeat("-", 30) + "a[i] }; c[0] = " + strings.Repeat("-", 30) + "d[0]", "d", "", api.ErrDepth},
	} {
		n := parse(t, bufs+x.s)
		got, err := buffers.Inline(n, x.buf)
		check(t, "Inline", n, got, err, x.want, x.err)
		if _, still := loopnest.Buffer(got, x.buf); err == api.OK && (still || len(got.Bufs) != len(n.Bufs)-1) {
			t.Errorf("%q: the buffer must be removed", x.s)
		}
	}
}

func TestCacheRead(t *testing.T) {
	for _, x := range []struct {
		s, loop, buf, name, want string
		err                      api.Errno
	}{
		{"for j < 2 { c[j] = a[j] }", "j", "a", "e", "for e1 < 3 { e[e1] = a[e1] } for j < 2 { c[j] = e[j] }", 0}, {"for z < 2 { s[] = a[z]; for j < 3 vector { if m[0, j] < m[1, t[j]] { c[t[0]] = a[t[j]] } } }", "j", "m", "e", "for z < 2 { s[] = a[z] for e1 < 2 { for e2 < 3 { e[e1, e2] = m[e1, e2] } } for j < 3 vector { if e[0, j] < e[1, t[j]] { c[t[0]] = a[t[j]] } } }", 0}, {"for j < 2 { c[t[j]] = a[t[0]] }; c[0] = a[t[1]]", "j", "t", "e", "for e1 < 3 { e[e1] = t[e1] } for j < 2 { c[e[j]] = a[e[0]] } c[0] = a[t[1]]", 0}, {"for j < 2 { s[] sum= s[]; c[j] = a[j] }", "j", "a", "e", "for e1 < 3 { e[e1] = a[e1] } for j < 2 { s[] sum= s[] c[j] = e[j] }", 0}, {"for j < 2 { c[j] = s[] }", "j", "s", "e", "e[] = s[] for j < 2 { c[j] = e[] }", 0},
		{"c[q] = a[0]", "j", "q", "", "", api.ErrNotFound}, {"", "j", "q", "", "", api.ErrLoop}, {"for j < 2 { }", "j", "q", "", "", api.ErrNotFound}, {"for j < 2 { }", "j", "a", "E", "", api.ErrName}, {"for j < 2 { }", "j", "a", "j", "", api.ErrDuplicate}, {"for j < 2 { }", "j", "a", "d", "", api.ErrDuplicate}, {"for j < 2 { a[9] = a[j] }", "j", "a", "e", "", api.ErrArg}, {"for j < 2 { c[j] = s[] }", "j", "a", "e", "", api.ErrNotFound}, {"for j < 2 { c[0] sum= s[] }", "j", "c", "e", "", api.ErrNotFound}, {"for j < 2 { c[j] = d[j]; d[0] sum= a[j] }", "j", "d", "e", "", api.ErrDependence}, {"for j < 2 { c[j] = a[j] }", "j", "a", "abcdefghijklmnop", "", api.ErrName},
	} {
		n := parse(t, bufs+x.s)
		got, err := buffers.CacheRead(n, x.loop, x.buf, x.name)
		check(t, "CacheRead", n, got, err, x.want, x.err)
		if err == api.OK {
			old, _ := loopnest.Buffer(n, x.buf)
			b := got.Bufs[len(got.Bufs)-1]
			if b.Name != x.name || b.Use != api.BTemp || b.Type != old.Type || len(b.Dims) != len(old.Dims) || len(got.Bufs) != len(n.Bufs)+1 {
				t.Errorf("%q: %v", x.s, b)
			}
		}
	}
}

func TestRemoveUnused(t *testing.T) {
	for _, x := range []struct {
		s, want string
		count   int
	}{
		{"for i < 3 { d[i] = a[i]; m[0, i] = d[i] }; for j < 2 { c[j] = a[j + 1] }", "for j < 2 { c[j] = a[j + 1] }", 4}, {"for i < 3 { d[i] = a[i] }; for j < 2 { c[j] = d[j] }; for k < 2 { }", "for i < 3 { d[i] = a[i] } for j < 2 { c[j] = d[j] }", 3}, {"if d[0] < a[0] { for k < 2 { s[] sum= a[0] } }; c[u[0]] = m[0, 0]; for l < 2 { if a[0] < a[1] { s[] = a[0] }; s[] = a[1] }", "c[u[0]] = m[0, 0]", 2},
	} {
		n := parse(t, bufs+x.s)
		got, count := buffers.RemoveUnused(n)
		check(t, "RemoveUnused", n, got, api.OK, x.want, api.OK)
		if count != x.count || len(got.Bufs) != len(n.Bufs)-count {
			t.Errorf("RemoveUnused(%q): %d", x.s, count)
		}
	}
	for _, s := range []string{"c[0] = d[0] + m[0, 0] + s[] + cast(frac, u[0]); for i < 2 { }", "c[q] = a[0]"} {
		n := parse(t, bufs+s)
		if got, count := buffers.RemoveUnused(n); count != 0 || !loopnest.Same(got, n) {
			t.Errorf("RemoveUnused(%q): %d", s, count)
		}
	}
}
