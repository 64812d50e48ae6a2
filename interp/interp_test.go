package interp_test

import (
	"math"
	"strings"
	"testing"

	"brocade/api"
	"brocade/interp"
	"brocade/nesttext"
	"brocade/tensor"
	"brocade/value"
)

func parse(t *testing.T, s string) api.Nest {
	t.Helper()
	n, ok := nesttext.Parse(s)
	if !ok {
		t.Fatalf("%q is no nest", s)
	}
	return n
}

func data(name string, kind int, vals string) api.Named {
	x := api.Tensor{Type: api.Type{Kind: kind}}
	for _, s := range strings.Fields(vals) {
		v, _ := value.Parse(x.Type, s)
		x.Vals = append(x.Vals, v)
	}
	x.Dims = []int{len(x.Vals)}
	return api.Named{Name: name, Tensor: x}
}

func show(l []api.Named) string {
	var b strings.Builder
	for _, x := range l {
		b.WriteString(x.Name + "=" + tensor.Format(x.Tensor) + ";")
	}
	return b.String()
}

const bufs = "a: frac[3] in; c: frac[3] out; t: int[2] in; s: frac[] temp; "

func inputs() []api.Named {
	return []api.Named{data("t", api.KInt, "2 7"), data("x", api.KInt, "1"), data("a", api.KFrac, "1/2 3 -1"), data("a", api.KInt, "9")}
}

func TestRun(t *testing.T) {
	for _, x := range []struct {
		s, want string
		steps   int
	}{
		{"", "[0, 0, 0] 0", 0}, {"for i < 3 { c[i] = a[i] }", "[1/2, 3, -1] 0", 6}, {"for i < 3 parallel { c[t[0] - i] = a[i] }", "", -1}, {"for i < 3 vector { c[2 - i] = a[i] + c[0] }", "[-1, 3, 1/2] 0", 6}, {"for i < 3 { s[] sum= a[i] }; c[t[1]] = s[] * s[]", "[0, 0, 25/4] 5/2", 7}, {"s[] = frac(1); for i < 3 { s[] prod= a[i] }", "[0, 0, 0] -3/2", 7}, {"for i < 3 { s[] min= a[i]; c[1] max= a[i] }", "[0, 3, 0] -1", 9},
		{"for i < 3 { if a[i] < frac(1) { c[i] = a[i]; c[0] sum= a[i] } }", "[0, 0, -1] 0", 10}, {"for i < 2 { for j < 2 { c[i + j] sum= cast(frac, [10*i + j]) } }", "[0, 11, 11] 0", 10}, {"if !(a[0] < a[1]) { c[9] = a[0] }", "[0, 0, 0] 0", 1}, {"for i < 2 { for j < 2 { c[j] sum= a[i] }; c[2] = c[i] }", "[7/2, 7/2, 7/2] 0", 12},
	} {
		if x.steps < 0 {
			continue
		}
		n := parse(t, bufs+x.s)
		mem, err := interp.InitMemory(n, inputs())
		if err != api.OK || len(mem) != 4 {
			t.Fatal(mem, err)
		}
		before := show(mem)
		got, steps, err := interp.Run(n, mem, x.steps)
		if err != api.OK || steps != x.steps || tensor.Format(got[1].Tensor)+" "+tensor.Format(got[3].Tensor) != x.want || show(mem) != before || show(got[:1])+show(got[2:3]) != show(mem[:1])+show(mem[2:3]) {
			t.Errorf("%q: %s, %d, %v", x.s, show(got), steps, err)
		}
		if out := show(interp.Outputs(n, got)); out != "c="+tensor.Format(got[1].Tensor)+";" {
			t.Error(out)
		}
		if again, steps, err := interp.Run(n, mem, api.MaxSteps); show(again) != show(got) || steps != x.steps || err != api.OK {
			t.Errorf("%q with more fuel: %d, %v", x.s, steps, err)
		}
		for fuel := range x.steps {
			if got, steps, err := interp.Run(n, mem, fuel); len(got) != 0 || steps != 0 || err != api.ErrFuel {
				t.Errorf("%q with fuel %d: %d, %v", x.s, fuel, steps, err)
			}
		}
		// Statement by statement (31.5).
		total, one := 0, mem
		for i := range n.Body {
			next, steps, err := interp.RunStmts(n, n.Body[i:i+1], one, nil, x.steps)
			if err != api.OK {
				t.Fatal(err)
			}
			one, total = next, total+steps
		}
		if show(one) != show(got) || total != x.steps {
			t.Errorf("%q by statements: %s, %d", x.s, show(one), total)
		}
	}
}

func TestRunErrors(t *testing.T) {
	good, _ := interp.InitMemory(parse(t, bufs), inputs())
	for _, x := range []struct {
		s    string
		mem  []api.Named
		fuel int
		err  api.Errno
	}{
		{"c[0] = q[0]", nil, -1, api.ErrNotFound}, {"", nil, -1, api.ErrArg}, {"", nil, api.MaxSteps + 1, api.ErrArg}, {"", nil, 5, api.ErrNotFound}, {"", append([]api.Named{{Name: "a"}}, good...), 5, api.ErrArg}, {"", append([]api.Named{data("a", api.KInt, "1 2 3")}, good...), 5, api.ErrType}, {"", append([]api.Named{data("a", api.KFrac, "1 2")}, good...), 5, api.ErrSize}, {"", good[:3], 5, api.ErrNotFound},
		{"for i < 3 { c[i + 1] = a[i] }", good, 99, api.ErrBounds}, {"for i < 3 { c[i + 1] = a[i] }", good, 5, api.ErrFuel}, {"for i < 3 { c[i + 1] = a[i] }", good, 6, api.ErrBounds}, {"c[3] = frac(1) / c[0]", good, 9, api.ErrDivide}, {"c[-1] = a[0]", good, 9, api.ErrBounds}, {"c[t[2]] = a[0]", good, 9, api.ErrBounds}, {"if frac(1) / c[0] < a[0] { }", good, 9, api.ErrDivide}, {"c[0] = frac(2147483647); c[0] sum= frac(1)", good, 9, api.ErrRange}, {"for i < 3 { c[9223372036854775807*i] = a[0] }", good, 9, api.ErrBounds}, {"c[0] = frac(2147483647); c[9] sum= frac(1)", good, 9, api.ErrBounds},
	} {
		if got, steps, err := interp.Run(parse(t, bufs+x.s), x.mem, x.fuel); len(got) != 0 || steps != 0 || err != x.err {
			t.Errorf("%q with fuel %d: %s, %d, %v; want %v", x.s, x.fuel, show(got), steps, err, x.err)
		}
	}
	for _, x := range []struct {
		s   string
		ins []api.Named
		err api.Errno
	}{{"c[0] = q[0]", nil, api.ErrNotFound}, {"", nil, api.ErrNotFound}, {"", []api.Named{{Name: "a"}}, api.ErrArg}, {"", []api.Named{data("a", api.KInt, "1")}, api.ErrType}, {"", []api.Named{data("a", api.KFrac, "1")}, api.ErrSize}, {"", inputs()[1:], api.ErrNotFound}} {
		if got, err := interp.InitMemory(parse(t, bufs+x.s), x.ins); len(got) != 0 || err != x.err {
			t.Errorf("InitMemory(%q): %v, %v", x.s, got, err)
		}
	}
	if got := show(good); got != "a=[1/2, 3, -1];c=[0, 0, 0];t=[2, 7];s=0;" {
		t.Error(got)
	}
	in := inputs()
	mem, _ := interp.InitMemory(parse(t, bufs), in)
	mem[0].Tensor.Vals[0].N = 77
	if in[2].Tensor.Vals[0].N != 1 {
		t.Error("InitMemory shares memory")
	}
}

func TestRunStmts(t *testing.T) {
	n := parse(t, bufs+"for i < 3 { for j < 2 { c[i] sum= a[j] } }")
	mem, _ := interp.InitMemory(n, inputs())
	inner := n.Body[0].Body
	for _, x := range []struct {
		l    []api.Stmt
		env  []api.Binding
		want string
		err  api.Errno
	}{
		{inner, []api.Binding{{Name: "i", Val: 1}}, "c=[0, 7/2, 0];", 0}, {inner[0].Body, []api.Binding{{Name: "j", Val: 1}, {Name: "i", Val: 2}}, "c=[0, 0, 3];", 0}, {inner, nil, "", api.ErrNotFound}, {inner, []api.Binding{{Name: "i", Val: -1}}, "", api.ErrArg}, {inner, []api.Binding{{Name: "i", Val: api.MaxPoints}}, "", api.ErrArg}, {inner, []api.Binding{{Name: "i", Val: math.MaxInt64}}, "", api.ErrArg}, {inner, []api.Binding{{Name: "i", Val: math.MinInt64}}, "", api.ErrArg}, {inner, []api.Binding{{Name: "i", Val: api.MaxPoints - 1}}, "", api.ErrBounds}, {inner, []api.Binding{{Name: "i", Val: 1}, {Name: "i", Val: 1}}, "", api.ErrDuplicate}, {inner, []api.Binding{{Name: "i", Val: 1}, {Name: "j", Val: 1}}, "", api.ErrDuplicate}, {inner, []api.Binding{{Name: "a", Val: 1}}, "", api.ErrDuplicate}, {inner, []api.Binding{{Name: "I", Val: -1}}, "", api.ErrName}, {inner, make([]api.Binding, 40), "", api.ErrDepth}, {nil, []api.Binding{{Name: "i", Val: 1}}, "c=[0, 0, 0];", 0},
	} {
		got, steps, err := interp.RunStmts(n, x.l, mem, x.env, 50)
		if show(interp.Outputs(n, got)) != x.want || err != x.err || err != api.OK && steps != 0 {
			t.Errorf("RunStmts in %v: %s, %d, %v", x.env, show(got), steps, err)
		}
	}
	if _, _, err := interp.RunStmts(n, inner, mem, []api.Binding{{Name: "i", Val: 1}}, 3); err != api.ErrFuel {
		t.Error(err)
	}
	if _, _, err := interp.RunStmts(n, inner, nil, []api.Binding{{Name: "i", Val: 1}}, -1); err != api.ErrArg {
		t.Error(err)
	}
	odd := api.Nest{Bufs: []api.Buffer{{Name: "c", Use: api.BOutput}, {Name: "q", Use: api.BOutput}, {Name: "x", Use: api.BOutput}, {Name: "t", Use: api.BTemp}}}
	if got := interp.Outputs(odd, inputs()); len(got) != 1 || got[0].Name != "x" {
		t.Error(got)
	}
}
