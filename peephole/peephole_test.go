package peephole_test

import (
	"slices"
	"strings"
	"testing"

	"brocade/api"
	"brocade/codegen"
	"brocade/isa"
	"brocade/peephole"
	"brocade/vm"
)

func unit(t *testing.T, text string) codegen.Unit {
	t.Helper()
	if text != "" {
		text = strings.ReplaceAll(text, "; ", "\n") + "\n"
	}
	l, at, err := isa.Parse(text)
	if err != api.OK {
		t.Fatalf("%q: %d, %v", text, at, err)
	}
	return codegen.Unit{Code: l, Types: []api.Type{{Kind: api.KInt}}, Slots: []api.Slot{{Name: "a", Len: 2}}, Words: 4}
}

func show(u codegen.Unit) string {
	return strings.ReplaceAll(strings.TrimSuffix(isa.Format(u.Code), "\n"), "\n", "; ")
}

// TestSteps follows the steps from a text on.
func TestSteps(t *testing.T) {
	for _, l := range [][]string{
		{"jump 2; halt; jump 3; halt", "jump 3; halt; jump 3; halt", "jump 2; jump 2; halt", "jump 1; halt", "halt"}, {""}, {"halt"}, {"move x1 x1; halt", "halt"}, {"move x1 x2; halt"}, {"move x1 x1"}, {"mul x1 x1 1; mul x1 x1 2; mul x1 x2 1; halt", "mul x1 x1 2; mul x1 x2 1; halt"}, {"jump 0"}, {"jump 1; jump 0", "jump 0"}, {"int x0 1; jump 1; halt", "int x0 1; jump 1"}, {"jlt 1 x0 x1; halt", "halt"}, {"test eq 1 r0 r1 int; halt"}, {"jlt 2 x0 x1; halt; jump 4; halt; int x0 1; halt", "jlt 4 x0 x1; halt; jump 4; halt; int x0 1; halt", "jlt 3 x0 x1; halt; halt; int x0 1; halt", "jlt 2 x0 x1; halt; int x0 1; halt"},
		{"test eq 3 r0 r1 int; int x0 2; halt; jump 2", "test eq 2 r0 r1 int; int x0 2; halt; jump 2", "test eq 2 r0 r1 int; int x0 2; halt"}, {"jlt 2 x0 x1; halt; jump 3; jump 2", "jlt 2 x0 x1; halt; jump 2"}, {"halt; jump 1; jump 2; int x0 1", "halt; jump 1; int x0 1", "halt; int x0 1", "halt"}, {"int x0 1; jump 2; jump 3; move x3 x3", "int x0 1; jump 2; move x3 x3", "int x0 1; move x3 x3"},
	} {
		u := unit(t, l[0])
		for i, want := range l {
			if show(u) != want {
				t.Fatalf("%q: step %d is %q; want %q", l[0], i, show(u), want)
			}
			next, changed := peephole.Step(u)
			if changed != (i < len(l)-1) || !slices.Equal(next.Types, u.Types) || !slices.Equal(next.Slots, u.Slots) || next.Words != u.Words {
				t.Fatalf("%q: step %d: %v", l[0], i, changed)
			}
			u = next
		}
		got, count := peephole.Optimize(unit(t, l[0]))
		if show(got) != l[len(l)-1] || count != len(l)-1 || len(peephole.Unreachable(got.Code)) != 0 {
			t.Errorf("Optimize(%q) = %q, %d", l[0], show(got), count)
		}
	}
	bad := unit(t, "jump 1; move x1 x1; halt")
	bad.Words = -1
	if u, changed := peephole.Step(bad); changed || show(u) != show(bad) {
		t.Error("an invalid unit")
	}
	if u, count := peephole.Optimize(bad); count != 0 || show(u) != show(bad) {
		t.Error("an invalid unit")
	}
	u := unit(t, "int x0 1; halt")
	c, _ := peephole.Optimize(u)
	c.Code[0].B, c.Slots[0].At, c.Types[0].Kind = 9, 9, 9
	if u.Code[0].B != 1 || u.Slots[0].At != 0 || u.Types[0].Kind != api.KInt {
		t.Error("the result shares memory")
	}
}

func TestUnreachable(t *testing.T) {
	for _, x := range []struct {
		l    []api.Instr
		want []int
	}{
		{nil, nil}, {unit(t, "jump 2; halt; jump 3; halt").Code, []int{1}}, {unit(t, "move x3 x1; halt; halt; halt").Code, []int{2, 3}}, {unit(t, "int x2 5; halt; halt").Code, []int{2}}, {unit(t, "jlt 3 x0 x1; halt; int x0 1; test eq 5 r0 r1 int; halt; halt; jump 2").Code, []int{2, 6}}, {[]api.Instr{{Op: api.IJump, A: -5}, {Op: 99}, {Op: api.IJump, A: 99}}, []int{1, 2}}, {[]api.Instr{{Op: 99}, {Op: api.IJLt, A: 77}, {Op: -1}}, nil},
	} {
		if got := peephole.Unreachable(x.l); !slices.Equal(got, x.want) {
			t.Errorf("Unreachable(%v) = %v", x.l, got)
		}
	}
}

// TestMeaning holds P50.4 for random code.
func TestMeaning(t *testing.T) {
	seed := uint64(2)
	next := func(n int) int {
		seed = seed*6364136223846793005 + 1442695040888963407
		return int(seed>>33) % n
	}
	changed, ended := 0, 0
	for range 3000 {
		u := codegen.Unit{Types: []api.Type{{Kind: api.KInt}}, Words: 2}
		many := 3 + next(8)
		for range many {
			x := api.Instr{A: next(3), B: next(3), C: next(3)}
			switch x.Op = []int{api.IHalt, api.IInt, api.IMove, api.IAdd, api.IMul, api.IJump, api.IJLt, api.ILoad, api.IFromInt, api.IJump, api.IMove}[next(11)]; x.Op {
			case api.IHalt:
				x = api.Instr{}
			case api.IInt, api.IMove, api.IFromInt:
				x.C = 0
			case api.IJump:
				x = api.Instr{Op: api.IJump, A: next(many)}
			case api.IJLt:
				x.A = next(many)
			case api.ILoad:
				x.C, x.Val.D = 2, 1
			}
			u.Code = append(u.Code, x)
		}
		if _, err := isa.Validate(u.Code, u.Types, u.Words); err != api.OK {
			t.Fatal(err)
		}
		best, count := peephole.Optimize(u)
		if at, err := isa.Validate(best.Code, best.Types, best.Words); err != api.OK {
			t.Fatalf("%s becomes invalid at %d: %v", show(u), at, err)
		}
		changed += count
		a, _ := vm.New(u)
		b, _ := vm.New(best)
		s1, e1 := a.Run(200)
		s2, e2 := b.Run(200)
		if e1 == api.ErrFuel {
			continue
		}
		ended++
		m1, _ := a.Load(0, 2)
		m2, _ := b.Load(0, 2)
		if e1 != e2 || s2 > s1 || !slices.Equal(a.IntRegisters(), b.IntRegisters()) || !slices.Equal(m1, m2) {
			t.Fatalf("%s and %s: %d, %v and %d, %v", show(u), show(best), s1, e1, s2, e2)
		}
	}
	if changed < 1000 || ended < 500 {
		t.Error(changed, ended)
	}
}
