package trace_test

import (
	"slices"
	"strconv"
	"strings"
	"testing"

	"brocade/api"
	"brocade/interp"
	"brocade/lin"
	"brocade/loopnest"
	"brocade/nesttext"
	"brocade/parser"
	"brocade/tensor"
	"brocade/trace"
	"brocade/value"
)

func parse(t *testing.T, s string) api.Nest {
	t.Helper()
	n, ok := nesttext.Parse(s)
	if !ok {
		t.Fatalf("%q is no nest", s)
	}
	return n
}

const bufs = "a: frac[3] in; c: frac[3] out; t: int[2, 2] in; s: frac[] temp; "

func flat(l ...api.Stmt) string {
	return strings.Join(strings.Fields(loopnest.Format(api.Nest{Body: l})), " ")
}

// show writes instances as "Stmt At: Op".
func show(l []api.Instance) []string {
	var r []string
	for _, x := range l {
		s := strconv.Itoa(x.Stmt)
		for _, v := range x.At {
			s += " " + strconv.Itoa(v)
		}
		r = append(r, s+": "+flat(x.Op))
	}
	return r
}

func TestInstances(t *testing.T) {
	for _, x := range []struct {
		s    string
		want []string
		err  api.Errno
	}{
		{"", nil, 0}, {"for i < 2 { c[i] = a[i] }", []string{"0 0: c[0] = a[0]", "0 1: c[1] = a[1]"}, 0}, {"for i < 3 { if [i] < [1] { c[i] = a[i] } }", []string{"0 0: c[0] = a[0]"}, 0}, {"if a[0] < a[1] { c[0] = a[0] }", []string{"0: if a[0] < a[1] { c[0] = a[0] }"}, 0},
		{"s[] = a[0]; for i < 2 { for j < 2 { c[i + j] sum= a[t[i, j]] }; if a[i] < c[0] { if [i] <= [0] & a[2 - i] == a[0] { c[2*i] prod= -a[i] }; for k < 1 { c[k] = a[0] } } }; s[] = a[1]", nil, api.ErrDependence}, {"s[] = a[0]; for i < 2 { for j < 2 { c[i + j] sum= a[t[i, j]] }; if a[i] < s[] { if [i] <= [0] & a[2 - i] == a[0] { c[2*i] prod= -a[i] } } }; s[] = a[1]", []string{"0: s[] = a[0]", "1 0 0: c[0] sum= a[t[0, 0]]", "1 0 1: c[1] sum= a[t[0, 1]]", "2 0: if a[0] < s[] { if [0] <= [0] & a[2] == a[0] { c[0] prod= -a[0] } }", "1 1 0: c[1] sum= a[t[1, 0]]", "1 1 1: c[2] sum= a[t[1, 1]]", "2 1: if a[1] < s[] { if [1] <= [0] & a[1] == a[0] { c[2] prod= -a[1] } }", "3: s[] = a[1]"}, 0},
		{"if a[0] < s[] { }", nil, api.ErrDependence}, {"if a[0] < s[] { if [1] < [0] { c[0] = a[0] } }", nil, api.ErrDependence}, {"if a[0] < c[1] { c[0] = a[0] }", []string{"0: if a[0] < c[1] { c[0] = a[0] }"}, 0}, {"if a[0] < c[1] { c[0] = a[0]; s[] = a[0] }", nil, api.ErrDependence}, {"if a[0] < a[1] { c[0] = a[0]; s[] = a[0] }", []string{"0: if a[0] < a[1] { c[0] = a[0] }", "1: if a[0] < a[1] { s[] = a[0] }"}, 0}, {"if a[t[0, 0]] < a[1] { for i < 2 { c[i] = a[0] } }", []string{"0 0: if a[t[0, 0]] < a[1] { c[0] = a[0] }", "0 1: if a[t[0, 0]] < a[1] { c[1] = a[0] }"}, 0},
		{"c[q] = a[0]", nil, api.ErrNotFound}, {"for i < 3 { if [4611686018427387904*i] < [1] { c[i] = a[0] } }", nil, api.ErrRange}, {"for i < 3 { c[4611686018427387904*i] = a[0] }", nil, api.ErrRange}, {"for i < 3 { if a[4611686018427387904*i] < a[0] { c[i] = a[0] } }", nil, api.ErrRange}, {"for i < 2 { c[4611686018427387904*i] = a[0] }", []string{"0 0: c[0] = a[0]", "0 1: c[4611686018427387904] = a[0]"}, 0}, {"if [1] / [0] < [2] { c[0] = a[0] }", nil, api.ErrDivide},
		{"for i < 65536 { }", nil, 0}, {"for i < 65536 { }; for j < 1 { }", nil, api.ErrLimit}, {"for i < 2049 { c[0] = a[0] }", nil, api.ErrLimit}, {"for i < 256 { for j < 256 { } }", nil, api.ErrLimit},
	} {
		l, err := trace.Instances(parse(t, bufs+x.s))
		if !slices.Equal(show(l), x.want) || err != x.err {
			t.Errorf("%q: %q, %v", x.s, show(l), err)
		}
	}
	if l, err := trace.Instances(parse(t, bufs+"for i < 2048 { c[0] = a[0] }")); len(l) != 2048 || err != api.OK {
		t.Error(len(l), err)
	}
}

func TestStatic(t *testing.T) {
	for s, want := range map[string]bool{"[i] < [j]": true, "int(1) < [j] | !(cast(int, frac(2)) == [0])": true, "a[0] < a[1]": false, "[1] < [2] & [i] < -t[]": false, "int(1)": true} {
		e, _, err := parser.Expr(s)
		if got := trace.Static(e); got != want || err != api.OK {
			t.Errorf("Static(%q) = %v", s, got)
		}
	}
	n := parse(t, bufs+"s[] = a[0]; for i < 2 { for j < 2 { }; if a[i] < s[] { c[i] = a[0] }; c[0] sum= a[1] }")
	if got := trace.Statements(n); !slices.EqualFunc(got, [][]int{{0}, {1, 1, 0}, {1, 2}}, slices.Equal) {
		t.Error(got)
	}
	s, err := trace.Concrete(n.Body[1], []api.Binding{{Name: "i", Val: 5}, {Name: "i", Val: 7}, {Name: "z", Val: 1}})
	if got := flat(s); got != "for i < 2 { for j < 2 { } if a[5] < s[] { c[5] = a[0] } c[0] sum= a[1] }" || err != api.OK {
		t.Error(got, err)
	}
	for _, x := range []struct {
		env []api.Binding
		err api.Errno
	}{{[]api.Binding{{Name: "sum", Val: 1}}, api.ErrArg}, {nil, 0}} {
		if s, err := trace.Concrete(n.Body[1], x.env); err != x.err || err != api.OK && s.Op != 0 {
			t.Errorf("Concrete with %v: %v, %v", x.env, s, err)
		}
	}
	big := api.Stmt{Idx: []api.Index{{Lin: api.Lin{L: []api.Mono{{Name: "i", By: 2}}}}}}
	if _, err := trace.Concrete(big, []api.Binding{{Name: "i", Val: 1 << 62}}); err != api.ErrRange {
		t.Error(err)
	}
}

func TestRegions(t *testing.T) {
	r := func(b string, from, to int) api.Region { return api.Region{Buffer: b, From: from, To: to} }
	n := parse(t, bufs)
	n.Bufs = append(n.Bufs, api.Buffer{Name: "bad", Dims: []int{0}}, api.Buffer{Name: "a", Dims: []int{9}})
	for _, x := range []struct {
		s             string
		writes, reads []api.Region
	}{
		{"c[0] sum= a[1]", []api.Region{r("c", 0, 1)}, []api.Region{r("a", 1, 2)}}, {"c[2] = a[t[1, 0]] * c[i]", []api.Region{r("c", 2, 3)}, []api.Region{r("t", 2, 3), r("a", 0, 3), r("c", 0, 3)}}, {"c[t[1, 1]] = s[] + a[-1] - a[3]", []api.Region{r("c", 0, 3)}, []api.Region{r("t", 3, 4), r("s", 0, 1), r("a", 0, 3), r("a", 0, 3)}}, {"q[0] = bad[0] + q[t[0]] + a[0, 0]", nil, []api.Region{r("t", 0, 4), r("a", 0, 3)}},
		{"c[0] = if(a[0] < a[1], a[0], t[0, 1])", []api.Region{r("c", 0, 1)}, []api.Region{r("a", 0, 1), r("a", 1, 2), r("a", 0, 1), r("t", 1, 2)}}, {"if a[2] < a[t[0, 0]] { c[1] = a[0]; for i < 9 { s[] = a[i] } }", []api.Region{r("c", 1, 2), r("s", 0, 1)}, []api.Region{r("a", 2, 3), r("t", 0, 1), r("a", 0, 3), r("a", 0, 1), r("a", 0, 3)}}, {"for i < 1 { }", nil, nil},
	} {
		s := parse(t, x.s).Body[0]
		if got := trace.Writes(n, s); !slices.Equal(got, x.writes) {
			t.Errorf("Writes(%q) = %v", x.s, got)
		}
		if got := trace.Reads(n, s); !slices.Equal(got, x.reads) {
			t.Errorf("Reads(%q) = %v", x.s, got)
		}
	}
	odd := api.Stmt{Op: 9, Name: "c", Idx: []api.Index{{}}, Body: parse(t, "c[0] = a[0]").Body}
	if len(trace.Writes(n, odd))+len(trace.Reads(n, odd)) != 0 {
		t.Error("another statement accesses nothing")
	}
	huge := api.Stmt{Op: api.SSet, Name: "c", Idx: []api.Index{{Lin: lin.Const(1 << 40)}}}
	if got := trace.Writes(n, huge); !slices.Equal(got, []api.Region{r("c", 0, 3)}) {
		t.Error(got)
	}
}

// TestReplay holds 33.4.
func TestReplay(t *testing.T) {
	n := parse(t, bufs+"s[] = frac(1); for i < 3 { c[i] = a[2 - i]; if c[i] < a[1] { s[] sum= c[i] }; for j < 2 { if [j] <= [i] { c[t[j, 0]] max= s[] * a[j] } } }; c[1] sum= s[]")
	var ins []api.Named
	for _, b := range n.Bufs[:3] {
		x := api.Tensor{Type: b.Type, Dims: b.Dims}
		for i := range tensorSize(b.Dims) {
			v, _ := value.Parse(b.Type, strconv.Itoa(3*i%5-i))
			x.Vals = append(x.Vals, v)
		}
		ins = append(ins, api.Named{Name: b.Name, Tensor: x})
	}
	mem, err := interp.InitMemory(n, ins)
	want, _, err2 := interp.Run(n, mem, api.MaxSteps)
	l, err3 := trace.Instances(n)
	if err != api.OK || err2 != api.OK || err3 != api.OK || len(l) != 13 {
		t.Fatal(err, err2, err3, len(l))
	}
	got := mem
	for _, x := range l {
		next, _, err := interp.RunStmts(n, []api.Stmt{x.Op}, got, nil, 99)
		if err != api.OK {
			t.Fatal(err)
		}
		writes := trace.Writes(n, x.Op)
		for i := range got {
			for k, v := range next[i].Tensor.Vals {
				if v != got[i].Tensor.Vals[k] && !slices.ContainsFunc(writes, func(r api.Region) bool { return r.Buffer == got[i].Name && r.From <= k && k < r.To }) {
					t.Errorf("%s changes %s at %d", flat(x.Op), got[i].Name, k)
				}
			}
		}
		got = next
	}
	for i := range got {
		if !tensor.Same(got[i].Tensor, want[i].Tensor) {
			t.Errorf("%v and %v", got[i], want[i])
		}
	}
}

func tensorSize(d []int) int {
	n := 1
	for _, x := range d {
		n *= x
	}
	return n
}
