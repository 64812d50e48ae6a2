package vm_test

import (
	"math"
	"slices"
	"strings"
	"testing"

	"brocade/api"
	"brocade/codegen"
	"brocade/interp"
	"brocade/isa"
	"brocade/nesttext"
	"brocade/tensor"
	"brocade/vm"
)

func unit(t *testing.T, words int, text string) codegen.Unit {
	t.Helper()
	l, at, err := isa.Parse(strings.ReplaceAll(text, "; ", "\n") + "\n")
	if err != api.OK {
		t.Fatalf("%q: %d, %v", text, at, err)
	}
	return codegen.Unit{Code: l, Types: []api.Type{{Kind: api.KFrac}, {Kind: api.KInt}}, Words: words}
}

func machine(t *testing.T, words int, text string) *vm.Machine {
	t.Helper()
	m, err := vm.New(unit(t, words, text))
	if err != api.OK {
		t.Fatalf("%q: %v", text, err)
	}
	return m
}

func TestInstructions(t *testing.T) {
	for _, x := range []struct {
		text string
		x0   int64
		pc   int
		many int
		err  api.Errno
	}{
		{"int x0 3; halt", 3, 1, 2, 0}, {"halt", 0, 0, 1, 0}, {"int x1 5; move x0 x1; halt", 5, 2, 3, 0}, {"int x1 5; int x2 -7; add x0 x1 x2; halt", -2, 3, 4, 0}, {"int x1 5; mul x0 x1 -3; halt", -15, 2, 3, 0}, {"int x1 5; int x2 -7; min x0 x1 x2; halt", -7, 3, 4, 0}, {"int x1 5; int x2 -7; max x0 x1 x2; halt", 5, 3, 4, 0}, {"jump 2; halt; int x0 1; halt", 1, 3, 3, 0}, {"int x1 1; jlt 3 x0 x1; halt; int x0 9; halt", 9, 4, 4, 0}, {"jlt 2 x0 x1; halt; int x0 9; halt", 0, 1, 2, 0},
		{"const r1 5; toint x0 r1 4; halt", 3, 2, 3, 0}, {"const r1 -5; toint x0 r1 4; halt", 0, 2, 3, 0}, {"const r1 7/2; toint x0 r1 100; halt", 7, 2, 3, 0}, {"int x1 6; fromint r1 x1; toint x0 r1 9; halt", 6, 3, 4, 0}, {"int x1 2147483647; add x1 x1 x1; fromint r1 x1; halt", 0, 2, 0, api.ErrRange}, {"int x1 2147483647; fromint r1 x1; halt", 0, 2, 3, 0}, {"int x1 -2147483647; fromint r1 x1; halt", 0, 2, 3, 0}, {"int x1 -2147483647; int x2 -1; add x1 x1 x2; fromint r1 x1; halt", 0, 3, 0, api.ErrRange}, {"int x1 2147483647; int x2 1; add x1 x1 x2; fromint r1 x1; halt", 0, 3, 0, api.ErrRange}, {"const r1 7/2; cast r2 r1 0 int; toint x0 r2 9; halt", 3, 3, 4, 0}, {"const r1 7/2; cast r2 r1 1 frac; halt", 0, 1, 0, api.ErrArg}, {"const r1 3; const r2 4; op mul r3 r1 r2 int; toint x0 r3 99; halt", 12, 4, 5, 0}, {"const r1 3; op neg r3 r1 int; op neg r3 r3 int; toint x0 r3 99; halt", 3, 4, 5, 0}, {"const r1 3; op div r3 r1 r0 int; halt", 0, 1, 0, api.ErrDivide}, {"const r1 1/2; op add r3 r1 r0 int; halt", 0, 1, 0, api.ErrArg},
		{"const r1 1; test lt 3 r0 r1 frac; int x0 1; halt", 1, 3, 4, 0}, {"const r1 1; test lt 3 r1 r0 frac; int x0 1; halt", 0, 3, 3, 0}, {"test le 2 r1 r0 frac; int x0 1; halt", 1, 2, 3, 0}, {"test lt 2 r1 r0 frac; int x0 1; halt", 0, 2, 2, 0}, {"test eq 2 r1 r0 frac; int x0 1; halt", 1, 2, 3, 0}, {"const r1 1/2; test eq 3 r1 r0 int; int x0 1; halt", 0, 1, 0, api.ErrArg}, {"const r1 1/2; test eq 3 r0 r1 int; int x0 1; halt", 0, 1, 0, api.ErrArg},
		{"int x1 1; const r1 7; store r1 x1 0 2; load r2 x1 0 2; toint x0 r2 9; halt", 7, 5, 6, 0}, {"int x1 2; load r0 x1 0 2; halt", 0, 1, 0, api.ErrBounds}, {"load r0 x1 1 2; halt", 0, 0, 0, api.ErrBounds}, {"int x1 -1; store r0 x1 0 2; halt", 0, 1, 0, api.ErrBounds}, {"int x0 1", 1, 1, 0, api.ErrCode}, {"jump 0", 0, 0, 0, api.ErrFuel},
	} {
		m := machine(t, 3, x.text)
		many, err := m.Run(20)
		if many != x.many || err != x.err || m.PC() != x.pc || m.IntRegisters()[0] != x.x0 {
			t.Errorf("%q: %d, %v, pc %d, x0 %d", x.text, many, err, m.PC(), m.IntRegisters()[0])
		}
	}
}

func TestWrapAround(t *testing.T) {
	n := int64(math.MaxInt32)
	for text, want := range map[string]int64{
		"int x0 2147483647; mul x0 x0 2147483647; mul x0 x0 2147483647; halt":       n * n * n,
		"int x1 2147483647; mul x1 x1 2147483647; add x0 x1 x1; add x0 x0 x1; halt": n*n + n*n + n*n,
	} {
		m := machine(t, 0, text)
		if _, err := m.Run(9); err != api.OK || m.IntRegisters()[0] != want {
			t.Errorf("%q: %d, %v", text, m.IntRegisters()[0], err)
		}
	}
}

// TestFarTargets jumps to positions that no register has as its number.
func TestFarTargets(t *testing.T) {
	text := "const r1 1; test lt 999 r1 r0 frac; halt" + strings.Repeat("; halt", 996) + "; int x0 5; halt"
	m := machine(t, 0, text)
	if many, err := m.Run(9); many != 4 || err != api.OK || m.IntRegisters()[0] != 5 {
		t.Error(many, err)
	}
}

func TestSteps(t *testing.T) {
	m := machine(t, 2, "int x0 3; load r0 x0 0 2; halt")
	if more, err := m.Step(); !more || err != api.OK || m.PC() != 1 || m.IntRegisters()[0] != 3 {
		t.Error(more, err)
	}
	for range 2 {
		if more, err := m.Step(); more || err != api.ErrBounds || m.PC() != 1 {
			t.Error("an error leaves the machine as it is", more, err, m.PC())
		}
	}
	m = machine(t, 0, "int x0 3; halt")
	if many, err := m.Run(1); many != 0 || err != api.ErrFuel || m.PC() != 1 {
		t.Error(many, err)
	}
	if many, err := m.Run(0); many != 0 || err != api.ErrFuel {
		t.Error(many, err)
	}
	if more, err := m.Step(); more || err != api.OK || m.PC() != 1 {
		t.Error(more, err)
	}
	if more, err := m.Step(); more || err != api.OK {
		t.Error(more, err)
	}
	if many, err := m.Run(0); many != 0 || err != api.OK {
		t.Error(many, err)
	}
	m = machine(t, 0, "int x0 3; halt")
	if many, err := m.Run(2); many != 2 || err != api.OK || len(m.IntRegisters()) != 256 {
		t.Error(many, err)
	}
	m.IntRegisters()[0] = 77
	if m.IntRegisters()[0] != 3 {
		t.Error("IntRegisters shares memory")
	}
	for _, fuel := range []int{-1, 16*api.MaxSteps + 1} {
		if many, err := m.Run(fuel); many != 0 || err != api.ErrArg {
			t.Errorf("fuel %d: %d, %v", fuel, many, err)
		}
	}
	if many, err := machine(t, 0, "jump 0").Run(16 * api.MaxSteps); many != 0 || err != api.ErrFuel {
		t.Error(many, err)
	}
	empty, _ := vm.New(codegen.Unit{})
	if more, err := empty.Step(); more || err != api.ErrCode {
		t.Error(more, err)
	}
}

func TestMemory(t *testing.T) {
	m := machine(t, 4, "halt")
	odd := []api.Val{{N: 7, D: 0}, {N: 1, D: 2}}
	for _, x := range []struct {
		at, many int
		err      api.Errno
	}{{0, 4, 0}, {4, 0, 0}, {2, 2, 0}, {-1, 1, api.ErrBounds}, {3, 2, api.ErrBounds}, {0, 5, api.ErrBounds}, {5, 0, api.ErrBounds}, {math.MaxInt, 1, api.ErrBounds}} {
		if l, err := m.Load(x.at, x.many); err != x.err || err == api.OK && len(l) != x.many || err != api.OK && len(l) != 0 {
			t.Errorf("Load(%d, %d) = %v, %v", x.at, x.many, l, err)
		}
		if err := m.Store(x.at, make([]api.Val, x.many)...); err != x.err {
			t.Errorf("Store(%d, %d) = %v", x.at, x.many, err)
		}
	}
	if _, err := m.Load(0, -1); err != api.ErrBounds {
		t.Error(err)
	}
	m = machine(t, 4, "halt")
	err := m.Store(1, odd...)
	l, _ := m.Load(0, 4)
	if err != api.OK || !slices.Equal(l, []api.Val{{N: 0, D: 1}, odd[0], odd[1], {N: 0, D: 1}}) {
		t.Error(l, err)
	}
	l[0].N = 5
	if again, _ := m.Load(0, 1); again[0].N != 0 {
		t.Error("Load shares memory")
	}
}

func TestUnusable(t *testing.T) {
	for _, m := range []*vm.Machine{nil, {}} {
		_, e1 := m.Load(0, 0)
		more, e2 := m.Step()
		many, e3 := m.Run(1)
		if m.Store(0) != api.ErrArg || e1 != api.ErrArg || e2 != api.ErrArg || e3 != api.ErrArg || more || many != 0 || m.PC() != 0 || m.IntRegisters() != nil {
			t.Error("a machine that New did not make")
		}
	}
	for _, u := range []codegen.Unit{{Words: -1}, {Code: []api.Instr{{Op: 99}}}, {Types: []api.Type{{}}}} {
		m, err := vm.New(u)
		if _, want := isa.Validate(u.Code, u.Types, u.Words); m != nil || err != want || err == api.OK {
			t.Error(m, err)
		}
	}
	u := unit(t, 2, "int x0 1; halt")
	m, _ := vm.New(u)
	u.Code[0].B = 9
	m.Run(9)
	if m.IntRegisters()[0] != 1 {
		t.Error("the machine shares the code")
	}
}

func show(l []api.Named) string {
	var b strings.Builder
	for _, x := range l {
		b.WriteString(x.Name + "=" + tensor.Format(x.Tensor) + ";")
	}
	return b.String()
}

const bufs = "a: frac[3] in; m: int[2, 3] in; c: frac[3] out; t: frac[3] temp; f: fix(8, 4, even, sat)[] out; "

func inputs() []api.Named {
	a := api.Tensor{Type: api.Type{Kind: api.KFrac}, Dims: []int{3}, Vals: []api.Val{{N: 1, D: 2}, {N: 3, D: 1}, {N: -2, D: 1}}}
	m := api.Tensor{Type: api.Type{Kind: api.KInt}, Dims: []int{2, 3}}
	for i := range 6 {
		m.Vals = append(m.Vals, api.Val{N: int64(i*i - 7), D: 1})
	}
	return []api.Named{{Name: "m", Tensor: m}, {Name: "a", Tensor: a}}
}

// TestExecute holds 49.7.
func TestExecute(t *testing.T) {
	for _, s := range []string{
		"", "for i < 3 { t[i] = a[2 - i] }; for j < 3 { c[j] sum= t[j] * t[m[1, j]] }", "for i < 2 unroll { for j < 3 { if m[i, j] < int(0) | a[j] <= frac(1) & !([i] == [j]) { c[j] max= a[j]; t[i] prod= a[0] } }; c[i] min= -t[i] }", "for i < 3 { f[] sum= cast(fix(8, 4, even, sat), if(a[i] < frac(1), a[i] / frac(3), frac(100))) }", "for i < 3 { c[i] = frac(1) / (a[i] - frac(3)) }", "for i < 3 { c[i + 1] = a[i] }", "c[m[0, 0]] = cast(frac, [5]); c[m[1, 2]] = a[m[1, 1]]", "c[0] = a[0] * cast(frac, [2147483647])", "if a[0] < a[1] { c[0] = max(a[0], min(a[1], a[2])) }; for i < 2 { c[i - 1 + i] = a[0] }", "c[0] = cast(frac, m[1, 3])",
	} {
		n, ok := nesttext.Parse(bufs + s)
		u, err := codegen.Compile(n)
		if !ok || err != api.OK {
			t.Fatalf("%q: %v", s, err)
		}
		mem, err := interp.InitMemory(n, inputs())
		if err != api.OK {
			t.Fatal(s, err)
		}
		final, _, want := interp.Run(n, mem, api.MaxSteps)
		got, many, err := vm.Execute(n, u, inputs(), 100000)
		if (err == api.OK) != (want == api.OK) || show(got) != show(interp.Outputs(n, final)) {
			t.Errorf("%q: %s, %v; want %s, %v", s, show(got), err, show(interp.Outputs(n, final)), want)
		}
		if err == api.OK {
			if _, again, err := vm.Execute(n, u, inputs(), many); again != many || err != api.OK {
				t.Error(s, again, err)
			}
			if _, _, err := vm.Execute(n, u, inputs(), many-1); err != api.ErrFuel {
				t.Error(s, err)
			}
		}
	}
}

func TestExecuteErrors(t *testing.T) {
	n, _ := nesttext.Parse(bufs + "c[0] = a[0]")
	good, _ := codegen.Compile(n)
	for k, x := range []struct {
		ins    []api.Named
		change func(u *codegen.Unit)
		fuel   int
		err    api.Errno
	}{
		{nil, func(u *codegen.Unit) { u.Words = -1 }, -1, api.ErrNotFound}, {inputs(), func(u *codegen.Unit) { u.Words = -1; u.Slots = nil }, -1, api.ErrArg}, {inputs(), func(u *codegen.Unit) { u.Slots = u.Slots[:4] }, -1, api.ErrNotFound}, {inputs(), func(u *codegen.Unit) { u.Slots[1].Len = 5; u.Slots[2].At = -1 }, -1, api.ErrSize}, {inputs(), func(u *codegen.Unit) { u.Slots[1].At = -1 }, -1, api.ErrBounds}, {inputs(), func(u *codegen.Unit) { u.Slots[1].At = u.Words - 5 }, -1, api.ErrBounds}, {inputs(), func(u *codegen.Unit) { u.Slots[1].At = math.MaxInt }, -1, api.ErrBounds}, {inputs(), func(u *codegen.Unit) {}, -1, api.ErrArg}, {inputs(), func(u *codegen.Unit) {}, 3, api.ErrFuel}, {inputs(), func(u *codegen.Unit) { u.Slots[4].At = u.Slots[0].At; u.Code = []api.Instr{{}} }, 3, api.ErrType}, {inputs(), func(u *codegen.Unit) { u.Code = []api.Instr{{}} }, 3, 0}, {inputs(), func(u *codegen.Unit) {
			u.Slots = append([]api.Slot{{Name: "a", Len: 9}}, u.Slots...)
		}, 3, api.ErrSize}, {inputs(), func(u *codegen.Unit) { u.Code = nil }, 3, api.ErrCode},
	} {
		u := good
		u.Slots = slices.Clone(good.Slots)
		x.change(&u)
		got, many, err := vm.Execute(n, u, x.ins, x.fuel)
		if err != x.err || err != api.OK && (len(got) != 0 || many != 0) {
			t.Errorf("case %d: %v, %d, %v; want %v", k, got, many, err, x.err)
		}
	}
}
