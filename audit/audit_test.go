package audit_test

import (
	"slices"
	"strings"
	"testing"

	"brocade/api"
	"brocade/audit"
	"brocade/nesttext"
	"brocade/parser"
	"brocade/pipeline"
	"brocade/reorder"
	"brocade/schedule"
	"brocade/value"
)

func parse(t *testing.T, s string) api.Prog {
	t.Helper()
	p, at, err := parser.Prog(s)
	if err != api.OK {
		t.Fatalf("%q: %d, %v", s, at, err)
	}
	return p
}

func nest(t *testing.T, s string) api.Nest {
	t.Helper()
	n, ok := nesttext.Parse(s)
	if !ok {
		t.Fatalf("%q is no nest", s)
	}
	return n
}

func vec(name, l string) api.Named {
	x := api.Tensor{Type: api.Type{Kind: api.KFrac}}
	for _, s := range strings.Fields(l) {
		v, _ := value.Parse(x.Type, s)
		x.Vals = append(x.Vals, v)
	}
	x.Dims = []int{len(x.Vals)}
	return api.Named{Name: name, Tensor: x}
}

func bind(n int64) []api.Binding { return []api.Binding{{Name: "n", Val: n}} }

func finding(err api.Errno, part string, at int) api.Finding {
	return api.Finding{Err: err, Part: part, At: at}
}

const head = "size n; in a: frac[n]; "

func TestProgram(t *testing.T) {
	long := "size n; "
	for i := range 64 {
		long += "def x" + string(rune('a'+i/8)) + string(rune('a'+i%8)) + ": int[] = int(1)" + strings.Repeat("+int(1)", 38) + "; "
	}
	bad := parse(t, head+"def s: frac[] = a[0]; out s;")
	bad.Defs[0].Dims = []api.Axis{{Name: "a", Size: api.Lin{K: 1}}}
	for _, x := range []struct {
		p    api.Prog
		n    int64
		ins  []api.Named
		want []api.Finding
	}{
		{parse(t, head+"def u: frac[i < n] = a[i] * frac(1) + a[0]; def s: frac[] = sum i < n: u[i]; out u, s;"), 3, []api.Named{vec("a", "1 2 3")}, nil}, {parse(t, head+"def z: frac[] = a[0]; def s: frac[i < n] = scan: a[i]; out s, z;"), 3, []api.Named{vec("a", "1 2 3")}, nil}, {parse(t, "size n, n;"), 3, nil, []api.Finding{finding(api.ErrDuplicate, "program", 0)}}, {parse(t, head+"out a, q;"), 3, nil, []api.Finding{finding(api.ErrNotFound, "program", 4)}},
		{parse(t, head+"def s: frac[i < n] = a[0] + a[i + 1]; out s;"), 3, []api.Named{vec("a", "1 2 3")}, []api.Finding{finding(api.ErrBounds, "bounds", 3), finding(api.ErrBounds, "eval", 0)}}, {parse(t, head+"def s: frac[i < n] = a[i] / frac(0); out s;"), 3, []api.Named{vec("a", "1 2 3")}, []api.Finding{finding(api.ErrDivide, "eval", 0)}}, {parse(t, head+"out a;"), 0, nil, []api.Finding{finding(api.ErrSize, "bounds", 0), finding(api.ErrSize, "eval", 0)}}, {parse(t, head+"out a;"), 1, []api.Named{vec("a", "1")}, nil}, {bad, 1, []api.Named{vec("a", "1")}, nil}, {parse(t, long), 1, nil, nil},
	} {
		if got := audit.Program(x.p, bind(x.n), x.ins); !slices.Equal(got, x.want) {
			t.Errorf("Program: %v; want %v", got, x.want)
		}
	}
	// A program whose text is too long to be read again.
	big := parse(t, "size n;")
	for i := range 64 {
		d := parse(t, "def x: fix(31, 30, even, wrap)[] = fix(31, 30, even, wrap)(1/2)"+strings.Repeat("+fix(31, 30, even, wrap)(1/2)", 38)+";").Defs[0]
		d.Name = "x" + string(rune('a'+i/8)) + string(rune('a'+i%8))
		big.Defs = append(big.Defs, d)
	}
	if got := audit.Program(big, bind(1), nil); !slices.Equal(got, []api.Finding{finding(api.ErrSyntax, "text", 0)}) {
		t.Error(got)
	}
}

func TestSchedule(t *testing.T) {
	const bufs = "a: frac[3] in; b: frac[3] out; c: frac[3] out; "
	n := nest(t, bufs+"for i < 3 { b[i] = a[i]; c[i] sum= b[i] }")
	m, err := reorder.Reverse(n, "i")
	if err != api.OK {
		t.Fatal(err)
	}
	ins := []api.Named{vec("a", "1 2 3")}
	for k, x := range []struct {
		n, m api.Nest
		ins  []api.Named
		want []api.Finding
	}{
		{n, m, ins, nil}, {n, nest(t, bufs+"for i < 3 { b[i] = a[2 - i]; c[i] sum= b[i] }"), ins, []api.Finding{finding(api.ErrDependence, "outputs", 0), finding(api.ErrDependence, "outputs", 1)}}, {n, nest(t, bufs+"for i < 3 { b[i] = a[i]; c[i] sum= a[2 - i] }"), ins, []api.Finding{finding(api.ErrDependence, "outputs", 1)}}, {n, nest(t, "a: frac[3] in; b: frac[3] out; b[0] = a[0]"), ins, []api.Finding{finding(api.ErrSize, "outputs", 0)}}, {n, nest(t, "a: frac[3] in; b: frac[3] out; d: frac[3] out; for i < 3 { b[i] = a[i]; d[i] = a[i] }"), ins, []api.Finding{finding(api.ErrDependence, "outputs", 1)}}, {n, nest(t, bufs+"b[3] = a[0]"), ins, nil}, {nest(t, bufs+"b[3] = a[0]"), n, ins, nil},
		{nest(t, "b[0] = q[]"), nest(t, "b[0] = q[]; b[1] = q[]"), nil, []api.Finding{finding(api.ErrNotFound, "nest", 0)}}, {n, nest(t, "b[0] = q[]"), nil, []api.Finding{finding(api.ErrNotFound, "nest", 1)}}, {n, m, nil, []api.Finding{finding(api.ErrNotFound, "inputs", 0)}}, {n, nest(t, "a: frac[2] in"), ins, []api.Finding{finding(api.ErrSize, "inputs", 1)}},
	} {
		if got := audit.Schedule(x.n, x.m, x.ins); !slices.Equal(got, x.want) {
			t.Errorf("case %d: %v; want %v", k, got, x.want)
		}
	}
}

func TestKernel(t *testing.T) {
	p := parse(t, head+"def u: frac[i < n] = a[i] * a[0]; def s: frac[] = sum i < n: u[i]; out u, s;")
	steps, _, _ := schedule.Parse("split u_i 2 o k\nunroll s_i\n")
	k, _, err := pipeline.Compile(p, bind(3), steps)
	if err != api.OK {
		t.Fatal(err)
	}
	ins := []api.Named{vec("a", "1 2 3")}
	jump := slices.IndexFunc(k.Unit.Code, func(x api.Instr) bool { return x.Op == api.IJLt })
	for i, x := range []struct {
		change func(k *pipeline.Kernel)
		want   []api.Finding
	}{
		{func(k *pipeline.Kernel) {}, nil}, {func(k *pipeline.Kernel) { k.Unit.Code[jump].A = 60000 }, []api.Finding{finding(api.ErrCode, "code", jump)}}, {func(k *pipeline.Kernel) { k.Unit.Words = -1 }, []api.Finding{finding(api.ErrArg, "code", 0), finding(api.ErrNoSpace, "arena", 0)}}, {func(k *pipeline.Kernel) { k.Unit.Slots[2].At = k.Unit.Slots[1].At }, []api.Finding{finding(api.ErrOverlap, "arena", 2), finding(api.ErrArg, "outputs", 1)}}, {func(k *pipeline.Kernel) { k.Nest.Bufs[0].Name = "" }, []api.Finding{finding(api.ErrName, "nest", 0)}}, {func(k *pipeline.Kernel) { k.Prog.Outs = k.Prog.Outs[:1] }, nil}, {func(k *pipeline.Kernel) {
			k.Prog = parse(t, head+"def u: frac[i < n] = a[i]; def s: frac[] = sum i < n: a[i] - a[i]; out u, s;")
		}, []api.Finding{finding(api.ErrArg, "outputs", 1)}}, {func(k *pipeline.Kernel) { k.Sizes[0].Val = 2 }, nil}, {func(k *pipeline.Kernel) { k.Unit.Code = k.Unit.Code[len(k.Unit.Code)-1:] }, []api.Finding{finding(api.ErrArg, "outputs", 0), finding(api.ErrArg, "outputs", 1)}},
	} {
		c := k
		c.Unit.Code, c.Unit.Slots, c.Sizes = slices.Clone(k.Unit.Code), slices.Clone(k.Unit.Slots), slices.Clone(k.Sizes)
		c.Nest.Bufs, c.Prog.Outs = slices.Clone(k.Nest.Bufs), slices.Clone(k.Prog.Outs)
		x.change(&c)
		if got := audit.Kernel(c, ins); !slices.Equal(got, x.want) {
			t.Errorf("change %d: %v; want %v", i, got, x.want)
		}
	}
	if got := audit.Kernel(k, nil); len(got) != 0 {
		t.Error(got)
	}
}

func TestGradient(t *testing.T) {
	square := "def s: frac[i < n] = a[i] * a[n - 1 - i] - a[0]; def u: int[] = int(1); out u;"
	for k, x := range []struct {
		s          string
		n          int64
		ins, along []api.Named
		out        string
		of         []string
		want       []api.Finding
	}{
		{square, 3, []api.Named{vec("a", "1 2 3")}, []api.Named{vec("a", "1 -1 5")}, "s", []string{"a"}, nil}, {square, 3, []api.Named{vec("a", "1 2 3")}, []api.Named{vec("a", "1 -1 5")}, "s", nil, nil}, {square, 3, []api.Named{vec("a", "1 2 3")}, nil, "s", []string{"a"}, nil}, {square, 3, []api.Named{vec("a", "1 2 3")}, []api.Named{vec("q", "1"), vec("a", "1 -1 5"), vec("a", "7")}, "s", []string{"a"}, nil},
		{square, 3, nil, nil, "q", []string{"a"}, []api.Finding{finding(api.ErrNotFound, "reverse", 0)}}, {square, 3, nil, nil, "u", []string{"a"}, []api.Finding{finding(api.ErrGradient, "reverse", 0)}}, {square, 3, nil, nil, "s", []string{"a"}, []api.Finding{finding(api.ErrNotFound, "dual", 0)}}, {square, 3, []api.Named{vec("a", "1 2 3")}, []api.Named{vec("a", "1")}, "s", []string{"a"}, []api.Finding{finding(api.ErrSize, "dual", 0)}}, {square, 3, []api.Named{vec("a", "1 2 3")}, []api.Named{vec("a", "1")}, "s", nil, nil},
		{"def s: frac[] = frac(1) / (a[0] - a[1]); out s;", 2, []api.Named{vec("a", "1 100001/100000")}, nil, "s", []string{"a"}, []api.Finding{finding(api.ErrRange, "eval", 0)}}, {"def s: frac[i < n] = a[i]; out s;", 2, []api.Named{vec("a", "1 1")}, []api.Named{vec("a", "2147483647 1")}, "s", []string{"a"}, []api.Finding{finding(api.ErrRange, "product", 0)}}, {"def s: frac[] = a[0] * frac(65536) + a[1] * frac(-65536); out s;", 2, []api.Named{vec("a", "0 0")}, []api.Named{vec("a", "21845 21845")}, "s", []string{"a"}, nil}, {"def s: frac[] = a[0] * frac(1000) + a[1]; out s;", 2, []api.Named{vec("a", "0 0")}, []api.Named{vec("a", "1 1/1000")}, "s", []string{"a"}, nil},
	} {
		if got := audit.Gradient(parse(t, head+x.s), bind(x.n), x.ins, x.along, x.out, x.of); !slices.Equal(got, x.want) {
			t.Errorf("case %d: %v; want %v", k, got, x.want)
		}
	}
}

func TestFormat(t *testing.T) {
	if got := audit.Format([]api.Finding{finding(api.ErrCode, "code", 0), finding(3, "x y", -7)}); got != "code 0: error 25\nx y -7: error 3\n" || audit.Format(nil) != "" {
		t.Errorf("%q", got)
	}
}
