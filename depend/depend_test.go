package depend_test

import (
	"slices"
	"strconv"
	"testing"

	"brocade/api"
	"brocade/depend"
	"brocade/nesttext"
	"brocade/trace"
)

func parse(t *testing.T, s string) api.Nest {
	t.Helper()
	n, ok := nesttext.Parse(s)
	if !ok {
		t.Fatalf("%q is no nest", s)
	}
	return n
}

const bufs = "x: frac[9] in; a: frac[9] out; s: frac[] temp; f: fix(8, 4, even, sat)[] temp; t: int[2] in; u: int[2] temp; "

func show(l []api.Dependence) []string {
	var r []string
	for _, d := range l {
		s := strconv.Itoa(d.From) + ">" + strconv.Itoa(d.To) + " " + []string{"", "flow", "anti", "out", "fold"}[d.Kind] + " " + d.Buffer
		for _, far := range d.Far {
			s += " " + strconv.Itoa(far)
		}
		r = append(r, s)
	}
	return r
}

func TestOverlap(t *testing.T) {
	r := func(b string, from, to int) api.Region { return api.Region{Buffer: b, From: from, To: to} }
	for _, x := range []struct {
		a, b []api.Region
		want bool
	}{{nil, nil, false}, {[]api.Region{r("a", 0, 2)}, []api.Region{r("a", 1, 3)}, true}, {[]api.Region{r("a", 0, 2)}, []api.Region{r("a", 2, 3)}, false}, {[]api.Region{r("a", 0, 2)}, []api.Region{r("b", 0, 2)}, false}, {[]api.Region{r("a", 0, 9)}, []api.Region{r("a", 5, 5)}, false}, {[]api.Region{r("a", 0, 9)}, []api.Region{r("a", 6, 4)}, false}, {[]api.Region{r("b", 0, 1), r("a", 3, 4)}, []api.Region{r("c", 0, 1), r("a", 0, 9)}, true}} {
		if depend.Overlap(x.a, x.b) != x.want || depend.Overlap(x.b, x.a) != x.want {
			t.Errorf("Overlap(%v, %v)", x.a, x.b)
		}
	}
}

func TestConflict(t *testing.T) {
	n := parse(t, bufs)
	for _, x := range []struct {
		a, b      string
		want, rev int
	}{
		{"a[0] = x[0]", "a[1] = x[0]", 0, 0}, {"a[0] = x[0]", "a[1] = a[0]", api.DFlow, api.DAnti}, {"a[0] = a[1]", "a[1] = a[0]", api.DFlow, api.DFlow}, {"a[0] = x[0]", "a[0] sum= x[1]", api.DOut, api.DOut}, {"a[0] sum= x[0]", "a[0] prod= x[1]", api.DFold, api.DFold}, {"a[0] sum= x[0]", "a[i] sum= x[1]", api.DFold, api.DFold}, {"if x[0] < a[3] { a[0] sum= x[0] }", "if x[1] < x[0] { a[0] max= x[1] }", api.DFold, api.DFold}, {"if x[0] < a[3] { a[0] sum= x[0] }", "a[3] = x[1]", api.DAnti, api.DFlow},
		{"if x[0] < x[3] { a[0] sum= x[0]; a[1] sum= x[0] }", "a[1] sum= x[0]", api.DOut, api.DOut}, {"for i < 2 { a[i] sum= x[0] }", "a[1] sum= x[0]", api.DOut, api.DOut}, {"a[t[0]] = x[0]", "a[5] = x[1]", api.DOut, api.DOut}, {"u[0] = t[0]", "a[u[0]] = x[1]", api.DFlow, api.DAnti}, {"q[0] = x[0]", "q[0] = x[1]", 0, 0},
	} {
		a, b := parse(t, x.a).Body[0], parse(t, x.b).Body[0]
		if got, rev := depend.Conflict(n, a, b), depend.Conflict(n, b, a); got != x.want || rev != x.rev || (got == 0) != (rev == 0) {
			t.Errorf("Conflict(%q, %q) = %d and %d", x.a, x.b, got, rev)
		}
	}
}

func TestAnalyze(t *testing.T) {
	for _, x := range []struct {
		s    string
		want []string
	}{
		{"for i < 4 { a[i + 1] = a[i] }", []string{"0>0 flow a 1"}}, {"for i < 4 { s[] sum= a[i] }", nil}, {"for i < 4 { f[] sum= fix(8, 4, even, sat)(1) }", []string{"0>0 fold f 1", "0>0 fold f 2", "0>0 fold f 3"}}, {"for i < 3 { f[] max= fix(8, 4, even, sat)(1) }", nil}, {"for i < 2 { s[] sum= x[i] }; for j < 2 { s[] prod= x[j] }", []string{"0>1 fold s"}},
		{"for i < 3 { s[] = x[i]; a[i] = s[] }", []string{"0>0 out s 1", "0>0 out s 2", "0>1 flow s 0", "0>1 flow s 1", "0>1 flow s 2", "1>0 anti s 1", "1>0 anti s 2"}}, {"for i < 2 { a[i] = x[i] }; for j < 2 { a[8 - j] = a[j] }", []string{"0>1 flow a"}}, {"for i < 2 { for j < 2 { a[2*i + j] = x[0] }; for k < 2 { s[] sum= a[2*i + k] } }", []string{"0>1 flow a 0"}},
		{"if x[0] < a[1] { a[0] sum= x[0] }; if x[1] < x[2] { a[1] = x[0] }", []string{"0>1 anti a"}}, {"", nil},
	} {
		got, err := depend.Analyze(parse(t, bufs+x.s))
		if !slices.Equal(show(got), x.want) || err != api.OK {
			t.Errorf("Analyze(%q) = %q, %v", x.s, show(got), err)
		}
	}
	// The same dependences from all pairs, by definition.
	n := parse(t, bufs+"for i < 3 { for j < 3 { a[i + j] = a[2*j] - a[i]; if a[j] < x[0] { s[] sum= a[i] } } }")
	l, err := trace.Instances(n)
	got, err2 := depend.Analyze(n)
	if err != api.OK || err2 != api.OK {
		t.Fatal(err, err2)
	}
	want := map[string]bool{}
	var pairs [][2]int
	for i := range l {
		for k := i + 1; k < len(l); k++ {
			kind := depend.Conflict(n, l[i].Op, l[k].Op)
			if kind == 0 {
				continue
			}
			pairs = append(pairs, [2]int{i, k})
			d := api.Dependence{From: l[i].Stmt, To: l[k].Stmt, Kind: kind, Buffer: []string{"a", "s"}[l[i].Stmt], Far: []int{l[k].At[0] - l[i].At[0], l[k].At[1] - l[i].At[1]}}
			if kind == api.DAnti {
				d.Buffer = []string{"a", "s"}[l[k].Stmt]
			}
			if kind != api.DFold {
				want[show([]api.Dependence{d})[0]] = true
			}
			if d.Far[0] < 0 || d.Far[0] == 0 && d.Far[1] < 0 {
				t.Errorf("%v goes back", d)
			}
		}
	}
	text := show(got)
	if len(text) != len(want) || slices.ContainsFunc(text, func(s string) bool { return !want[s] }) {
		t.Errorf("%q", text)
	}
	if p := depend.Pairs(n, l); !slices.Equal(p, pairs) {
		t.Errorf("Pairs: %v", p)
	}
	if depend.Pairs(n, make([]api.Instance, api.MaxInstances+1)) != nil {
		t.Error("too many instances")
	}
	if _, err := depend.Analyze(parse(t, bufs+"if x[0] < x[1] { }")); err != api.ErrDependence {
		t.Error(err)
	}
}

func TestCarried(t *testing.T) {
	n := parse(t, bufs+"for i < 3 { for j < 2 { a[2*i + j + 1] = a[2*i + j] - x[0] }; for k < 2 { s[] = a[k]; u[k] = [1] } }")
	all, err := depend.Analyze(n)
	if err != api.OK {
		t.Fatal(err)
	}
	// The first loop that is not at a distance of 0 carries a dependence.
	carrier := func(d api.Dependence) string {
		inner := []string{"i", "j"}
		if d.From > 0 {
			inner[1] = "k"
		}
		for at, far := range d.Far {
			if far != 0 {
				return inner[at]
			}
		}
		return ""
	}
	for loop, least := range map[string]int{"i": 5, "j": 1, "k": 1} {
		got, err := depend.Carried(n, loop)
		want := slices.DeleteFunc(slices.Clone(all), func(d api.Dependence) bool { return carrier(d) != loop })
		if err != api.OK || len(got) < least || !slices.Equal(show(got), show(want)) {
			t.Errorf("Carried(%s) = %q; want %q", loop, show(got), show(want))
		}
		if ok, err := depend.Independent(n, loop); ok || err != api.OK {
			t.Errorf("Independent(%s): %v, %v", loop, ok, err)
		}
	}
	m := parse(t, bufs+"for i < 3 { a[i] = x[i]; s[] sum= a[i] }")
	if ok, err := depend.Independent(m, "i"); !ok || err != api.OK {
		t.Error(ok, err)
	}
	if l, err := depend.Carried(m, "q"); err != api.ErrLoop || len(l) != 0 {
		t.Error(l, err)
	}
	if ok, err := depend.Independent(m, "q"); err != api.ErrLoop || ok {
		t.Error(ok, err)
	}
	if _, err := depend.Carried(parse(t, bufs+"if x[0] < x[1] { }"), "q"); err != api.ErrDependence {
		t.Error(err)
	}
}
