package legality_test

import (
	"testing"

	"brocade/api"
	"brocade/legality"
	"brocade/nesttext"
	"brocade/trace"
)

func parse(t *testing.T, s string) api.Nest {
	t.Helper()
	n, ok := nesttext.Parse(s)
	if !ok {
		t.Fatalf("%q is no nest", s)
	}
	return n
}

const bufs = "x: frac[4] in; a: frac[4] out; c: frac[4, 4] out; s: frac[] temp; f: fix(8, 4, even, sat)[] temp; y: fix(8, 4, even, sat)[4] in; "

func TestCommutes(t *testing.T) {
	n := parse(t, bufs)
	for _, x := range []struct {
		a, b string
		want bool
	}{
		{"s[] sum= x[0]", "s[] sum= x[1]", true}, {"s[] sum= x[0]", "s[] prod= x[1]", false}, {"s[] = x[0]", "s[] sum= x[1]", false}, {"s[] sum= x[0]", "s[] = x[1]", false}, {"a[0] sum= x[0]", "s[] sum= x[1]", false}, {"a[0] sum= x[0]", "a[1] sum= x[1]", true}, {"a[0] sum= a[1]", "a[1] sum= x[1]", false}, {"a[1] sum= x[0]", "a[0] sum= a[1]", false}, {"f[] sum= y[0]", "f[] sum= y[1]", false}, {"f[] max= y[0]", "f[] max= y[1]", true}, {"q[] sum= x[0]", "q[] sum= x[1]", false},
		{"if x[0] < x[1] { if x[2] < x[1] { s[] sum= x[0] } }", "s[] sum= x[1]", true}, {"if s[] < x[1] { s[] sum= x[0] }", "s[] sum= x[1]", false}, {"if x[0] < x[1] { s[] sum= x[0]; s[] sum= x[0] }", "s[] sum= x[1]", false}, {"if x[0] < x[1] { }", "s[] sum= x[1]", false}, {"for i < 2 { s[] sum= x[0] }", "s[] sum= x[1]", false},
	} {
		if got := legality.Commutes(n, parse(t, x.a).Body[0], parse(t, x.b).Body[0]); got != x.want {
			t.Errorf("Commutes(%q, %q) = %v", x.a, x.b, got)
		}
	}
}

func TestCheck(t *testing.T) {
	for _, x := range []struct {
		a, b string
		same bool
		err  api.Errno
	}{
		{"for i < 3 { s[] sum= x[i] }", "for i < 3 { s[] sum= x[-i + 2] }", false, 0}, {"for i < 3 { f[] sum= y[i] }", "for i < 3 { f[] sum= y[-i + 2] }", false, api.ErrDependence}, {"for i < 3 { f[] max= y[i] }", "for i < 3 { f[] max= y[-i + 2] }", false, 0}, {"for i < 3 { for j < 4 { c[i, j] = x[i] } }", "for j < 4 { for i < 3 { c[i, j] = x[i] } }", true, 0}, {"for i < 3 { a[i + 1] = a[i] }", "for i < 3 { a[-i + 3] = a[-i + 2] }", false, api.ErrDependence}, {"for i < 3 { a[i] = a[i + 1] }", "for i < 3 { a[-i + 2] = a[-i + 3] }", false, api.ErrDependence}, {"for i < 3 { s[] = x[i] }", "for i < 3 { s[] = x[-i + 2] }", false, api.ErrDependence},
		{"s[] sum= x[0]; s[] sum= x[0]; s[] sum= x[1]", "s[] sum= x[0]; s[] sum= x[1]; s[] sum= x[0]", false, 0}, {"s[] sum= x[0]; s[] sum= x[0]", "s[] sum= x[0]; s[] sum= x[0]", true, 0}, {"a[0] = x[0]; a[1] = x[1]", "a[0] = x[0]", false, api.ErrDependence}, {"a[0] = x[0]", "a[0] = x[0]; a[1] = x[1]", false, api.ErrDependence}, {"a[0] = x[0]", "a[0] = x[1]", false, api.ErrDependence}, {"a[0] = x[0]", "a[0] = x[0]; a[0] = x[0]", false, api.ErrDependence}, {"", "", true, 0}, {"for i < 2 { for j < 2 { a[i] sum= x[j] } }", "for j < 2 { for i < 2 { a[i] sum= x[j] } }", true, 0},
		{"if x[0] < x[1] { }", "a[9] = q[]", false, api.ErrDependence}, {"a[0] = x[0]", "a[0] = q[]", false, api.ErrNotFound}, {"a[0] = q[]", "if x[0] < x[1] { }", false, api.ErrNotFound}, {"if x[0] < x[1] { a[0] = x[0] }; a[1] = x[1]", "a[1] = x[1]; if x[0] < x[1] { a[0] = x[0] }", true, 0}, {"if a[1] < x[1] { a[0] = x[0] }; a[1] = x[1]", "a[1] = x[1]; if a[1] < x[1] { a[0] = x[0] }", false, api.ErrDependence},
	} {
		n, m := parse(t, bufs+x.a), parse(t, bufs+x.b)
		if same, err := legality.Check(n, m); same != x.same || err != x.err {
			t.Errorf("Check(%q, %q) = %v, %v", x.a, x.b, same, err)
		}
		if _, err := trace.Instances(n); err == api.OK {
			if same, err := legality.Check(n, n); !same || err != api.OK {
				t.Errorf("Check of %q and itself: %v, %v", x.a, same, err)
			}
		}
	}
	n := parse(t, bufs+"a[0] = x[0]")
	for k, change := range []func(m *api.Nest){
		func(m *api.Nest) { m.Bufs = m.Bufs[:3] }, func(m *api.Nest) { m.Bufs[0], m.Bufs[1] = m.Bufs[1], m.Bufs[0] }, func(m *api.Nest) { m.Bufs[3].Name = "z" }, func(m *api.Nest) { m.Bufs[3].Type.Kind = api.KInt }, func(m *api.Nest) { m.Bufs[3].Dims = []int{1} }, func(m *api.Nest) { m.Bufs[3].Use = api.BOutput },
	} {
		m := parse(t, bufs+"a[0] = x[0]")
		change(&m)
		if same, err := legality.Check(n, m); same || err != api.ErrDependence {
			t.Errorf("change %d: %v, %v", k, same, err)
		}
	}
}

func TestPreservesDependences(t *testing.T) {
	n := parse(t, bufs)
	list := func(s string) []api.Instance {
		l, err := trace.Instances(parse(t, bufs+s))
		if err != api.OK {
			t.Fatal(s, err)
		}
		return l
	}
	for _, x := range []struct {
		a, b string
		at   int
		ok   bool
	}{
		{"a[0] = x[0]; a[1] = x[1]; a[2] = a[0]", "a[1] = x[1]; a[0] = x[0]; a[2] = a[0]", 0, true}, {"a[0] = x[0]; a[1] = x[1]; a[2] = a[0]", "a[1] = x[1]; a[2] = a[0]; a[0] = x[0]", 2, false}, {"a[0] = x[0]; a[1] = x[1]; a[2] = a[0]", "a[2] = a[0]; a[0] = x[0]; a[1] = x[1]", 1, false}, {"a[0] = x[0]; a[1] = x[1]", "a[1] = x[1]; a[1] = x[1]", 1, false}, {"a[0] = x[0]; a[1] = x[1]", "a[1] = x[1]", 1, false}, {"a[0] = x[0]; a[1] = x[1]", "", 0, false}, {"", "a[0] = x[0]", 0, false}, {"s[] sum= x[0]; s[] sum= x[1]; s[] = x[2]", "s[] sum= x[1]; s[] sum= x[0]; s[] = x[2]", 0, true}, {"s[] sum= x[0]; s[] sum= x[1]; s[] = x[2]", "s[] sum= x[1]; s[] = x[2]; s[] sum= x[0]", 2, false},
	} {
		if at, ok := legality.PreservesDependences(n, list(x.a), list(x.b)); at != x.at || ok != x.ok {
			t.Errorf("%q and %q: %d, %v", x.a, x.b, at, ok)
		}
		same := x.a == x.b
		if legality.SameInstances(list(x.a), list(x.b)) != same || !legality.SameInstances(list(x.a), list(x.a)) {
			t.Errorf("SameInstances(%q, %q)", x.a, x.b)
		}
	}
	one, two := list("for i < 2 { a[1] = x[0] }"), list("a[1] = x[0]; a[1] = x[0]")
	if !legality.SameInstances(one, two) || legality.SameInstances(one, two[:1]) || legality.SameInstances(list("a[1] = x[0]"), list("a[1] = x[1]")) {
		t.Error("Stmt and At are ignored")
	}
}
