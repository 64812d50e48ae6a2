package isa_test

import (
	"math"
	"slices"
	"strings"
	"testing"

	"brocade/api"
	"brocade/isa"
)

var (
	kfrac = api.Type{Kind: api.KFrac}
	kfix  = api.Type{Kind: api.KFix, Bits: 8, Frac: 4, Round: api.REven, Over: api.OSat}
)

func v(n, d int64) api.Val { return api.Val{N: n, D: d} }

// good has one instruction of each kind with its text.
var good = []struct {
	x    api.Instr
	text string
}{
	{api.Instr{Op: api.IHalt}, "halt"}, {api.Instr{Op: api.IInt, A: 255, B: -api.MaxNum}, "int x255 -2147483647"}, {api.Instr{Op: api.IMove, A: 1, B: 2}, "move x1 x2"}, {api.Instr{Op: api.IAdd, A: 1, B: 2, C: 3}, "add x1 x2 x3"}, {api.Instr{Op: api.IMul, A: 1, B: 2, C: -3}, "mul x1 x2 -3"}, {api.Instr{Op: api.IMin, A: 1, B: 2, C: 3}, "min x1 x2 x3"}, {api.Instr{Op: api.IMax, A: 0, B: 2, C: 255}, "max x0 x2 x255"}, {api.Instr{Op: api.IJump, A: 5}, "jump 5"}, {api.Instr{Op: api.IJLt, A: 7, B: 1, C: 2}, "jlt 7 x1 x2"}, {api.Instr{Op: api.IConst, A: 3, Val: v(-3, 2)}, "const r3 -3/2"},
	{api.Instr{Op: api.ILoad, A: 0, B: 4, C: 16, Val: v(8, 1)}, "load r0 x4 8 16"}, {api.Instr{Op: api.IStore, A: 9, B: 4, C: 8, Val: v(8, 1)}, "store r9 x4 8 8"}, {api.Instr{Op: api.IOp, A: 1, B: 2, C: 3, Val: v(api.EAdd, 1), Type: kfrac}, "op add r1 r2 r3 frac"}, {api.Instr{Op: api.IOp, A: 1, B: 2, Val: v(api.ENeg, 1), Type: kfix}, "op neg r1 r2 fix 8 4 even sat"}, {api.Instr{Op: api.IOp, A: 1, B: 2, Val: v(api.EMax, 1), Type: api.Type{Kind: api.KInt}}, "op max r1 r2 r0 int"}, {api.Instr{Op: api.ICast, A: 1, B: 2, Val: v(0, 1), Type: kfix}, "cast r1 r2 0 fix 8 4 even sat"}, {api.Instr{Op: api.ITest, A: 4, B: 1, C: 2, Val: v(api.CLe, 1), Type: kfrac}, "test le 4 r1 r2 frac"}, {api.Instr{Op: api.IToInt, A: 1, B: 2, C: 4096}, "toint x1 r2 4096"}, {api.Instr{Op: api.IFromInt, A: 1, B: 2}, "fromint r1 x2"},
	{api.Instr{Op: api.ITest, A: api.MaxCode - 1, B: 255, Val: v(api.CEq, 1), Type: api.Type{Kind: api.KFix, Bits: 31, Frac: 30, Round: api.RTrunc, Over: api.OWrap}}, "test eq 65535 r255 r0 fix 31 30 zero wrap"}, {api.Instr{Op: api.ITest, Val: v(api.CLt, 1), Type: api.Type{Kind: api.KFix, Bits: 2, Round: api.RFloor, Over: api.OWrap}}, "test lt 0 r0 r0 fix 2 0 floor wrap"}, {api.Instr{Op: api.IOp, Val: v(api.EDiv, 1), Type: api.Type{Kind: api.KFix, Bits: 2, Round: api.RCeil, Over: api.OWrap}}, "op div r0 r0 r0 fix 2 0 ceil wrap"}, {api.Instr{Op: api.IOp, Val: v(api.ESub, 1), Type: kfrac}, "op sub r0 r0 r0 frac"}, {api.Instr{Op: api.IOp, Val: v(api.EMul, 1), Type: kfrac}, "op mul r0 r0 r0 frac"}, {api.Instr{Op: api.IOp, Val: v(api.EMin, 1), Type: kfrac}, "op min r0 r0 r0 frac"},
}

// bad has instructions that are not well formed.
func bad() []api.Instr {
	l := []api.Instr{
		{Op: -1}, {Op: 17}, {Op: math.MaxInt}, {Op: api.IHalt, A: 1}, {Op: api.IInt, A: 256}, {Op: api.IInt, A: -1}, {Op: api.IInt, B: api.MaxNum + 1}, {Op: api.IInt, B: -api.MaxNum - 1}, {Op: api.IInt, C: 1}, {Op: api.IMove, B: 256}, {Op: api.IAdd, C: -1}, {Op: api.IMul, C: api.MaxNum + 1}, {Op: api.IJump, A: api.MaxCode}, {Op: api.IJump, A: -1}, {Op: api.IJump, B: 1}, {Op: api.IJLt, A: 1, C: 256}, {Op: api.IConst}, {Op: api.IConst, Val: v(2, 4)}, {Op: api.IConst, Val: v(1, 2), B: 1}, {Op: api.ILoad, C: 1}, {Op: api.ILoad, C: 1, Val: v(2, 1)}, {Op: api.ILoad, C: 1, Val: v(-1, 1)}, {Op: api.ILoad, C: api.MaxSteps + 1, Val: v(0, 1)}, {Op: api.IStore, C: -1, Val: v(-2, 1)}, {Op: api.IStore, A: 256, Val: v(0, 1)}, {Op: api.IStore, C: 3, Val: v(0, 2)},
		{Op: api.IOp, Type: kfrac}, {Op: api.IOp, Val: v(api.EIf, 1), Type: kfrac}, {Op: api.IOp, Val: v(api.ERead, 1), Type: kfrac}, {Op: api.IOp, Val: v(api.EAdd, 1)}, {Op: api.IOp, Val: v(api.EAdd, 2), Type: kfrac}, {Op: api.IOp, C: 1, Val: v(api.ENeg, 1), Type: kfrac}, {Op: api.IOp, C: 256, Val: v(api.EAdd, 1), Type: kfrac}, {Op: api.ICast, Val: v(256, 1), Type: kfrac}, {Op: api.ICast, Val: v(-1, 1), Type: kfrac}, {Op: api.ICast, Val: v(0, 1)}, {Op: api.ICast, C: 1, Val: v(0, 1), Type: kfrac}, {Op: api.ITest, Val: v(api.CAnd, 1), Type: kfrac}, {Op: api.ITest, Val: v(api.ECast, 1), Type: kfrac}, {Op: api.ITest, A: api.MaxCode, Val: v(api.CEq, 1), Type: kfrac}, {Op: api.IToInt}, {Op: api.IToInt, C: api.MaxSize + 1}, {Op: api.IFromInt, C: 1}, {Op: api.IFromInt, B: 256},
	}
	for _, x := range good {
		y := x.x
		switch y.Op {
		case api.IConst, api.ILoad, api.IStore, api.IOp, api.ICast, api.ITest:
		default:
			y.Val.D = 1
			l = append(l, y)
			y = x.x
		}
		if y.Type == (api.Type{}) {
			y.Type = kfrac
		} else {
			y.Type = api.Type{Kind: 9}
		}
		l = append(l, y)
	}
	return l
}

func TestText(t *testing.T) {
	var all []api.Instr
	text := ""
	for _, x := range good {
		if got := isa.Format([]api.Instr{x.x}); got != x.text+"\n" {
			t.Errorf("Format(%v) = %q", x.x, got)
		}
		if got := isa.Mnemonic(x.x.Op); got != strings.Fields(x.text)[0] {
			t.Errorf("Mnemonic(%d) = %q", x.x.Op, got)
		}
		all, text = append(all, x.x), text+x.text+"\n"
	}
	if got, at, err := isa.Parse(text); !slices.Equal(got, all) || at != 0 || err != api.OK || isa.Format(all) != text {
		t.Error(got, at, err)
	}
	for _, x := range bad() {
		if isa.Format([]api.Instr{all[0], x}) != "" {
			t.Errorf("%v is not well formed", x)
		}
	}
	if isa.Mnemonic(17) != "" || isa.Mnemonic(-1) != "" || isa.Format(nil) != "" {
		t.Error("no opcode, no code")
	}
}

func TestParseErrors(t *testing.T) {
	for _, x := range []struct {
		s   string
		at  int
		err api.Errno
	}{
		{"", 0, 0}, {"halt", 0, api.ErrEOF}, {"halt\nhalt", 1, api.ErrEOF}, {"halt\n ", 1, api.ErrEOF}, {"halt 1\n", 0, api.ErrSyntax}, {"halt 1\nhalt", 0, api.ErrSyntax}, {"halt\nadd x1 x2 x256\n", 1, api.ErrSyntax}, {"\n", 0, api.ErrSyntax}, {" halt\n", 0, api.ErrSyntax}, {"halt \n", 0, api.ErrSyntax}, {"Halt\n", 0, api.ErrSyntax}, {"add x1 x2\n", 0, api.ErrSyntax}, {"add x1  x2 x3\n", 0, api.ErrSyntax}, {"add x1 x2 x3 x4\n", 0, api.ErrSyntax}, {"add x1 x2 r3\n", 0, api.ErrSyntax}, {"add x1 x2 x03\n", 0, api.ErrSyntax}, {"add x1 x2 x-3\n", 0, api.ErrSyntax}, {"add x1 x2 x\n", 0, api.ErrSyntax}, {"add x1 x2 +3\n", 0, api.ErrSyntax}, {"int x1 +3\n", 0, api.ErrSyntax}, {"int x1 -0\n", 0, api.ErrSyntax}, {"int x1 007\n", 0, api.ErrSyntax}, {"int x1 99999999999999999999\n", 0, api.ErrSyntax}, {"int x1 2147483648\n", 0, api.ErrSyntax},
		{"const r1 2/4\n", 0, api.ErrSyntax}, {"const r1 x\n", 0, api.ErrSyntax}, {"load r0 x4 8 7\n", 0, api.ErrSyntax}, {"load r0 x4 8\n", 0, api.ErrSyntax}, {"op add r1 r2 frac\n", 0, api.ErrSyntax}, {"op neg r1 r2 r3 frac\n", 0, api.ErrSyntax}, {"op lt r1 r2 r3 frac\n", 0, api.ErrSyntax}, {"op add r1 r2 r3\n", 0, api.ErrSyntax}, {"op add r1 r2 r3 real\n", 0, api.ErrSyntax}, {"op add r1 r2 r3 frac x\n", 0, api.ErrSyntax}, {"op add r1 r2 r3 fix 8 4 even\n", 0, api.ErrSyntax}, {"op add r1 r2 r3 fix 8 4 even sat sat\n", 0, api.ErrSyntax}, {"op add r1 r2 r3 fix 99 4 even sat\n", 0, api.ErrSyntax}, {"op add r1 r2 r3 fix 8 04 even sat\n", 0, api.ErrSyntax}, {"op add r1 r2 r3 fix 8 4  sat\n", 0, api.ErrSyntax}, {"test add 1 r1 r2 frac\n", 0, api.ErrSyntax}, {"cast r1 r2 256 frac\n", 0, api.ErrSyntax}, {"toint x1 r1 0\n", 0, api.ErrSyntax}, {"jump 65536\n", 0, api.ErrSyntax}, {"jump -1\n", 0, api.ErrSyntax}, {"halt\r\n", 0, api.ErrSyntax},
		{strings.Repeat("halt\n", api.MaxCode+1), 0, api.ErrLimit}, {strings.Repeat("halt\n", api.MaxCode) + "x", 0, api.ErrLimit}, {strings.Repeat("\n", api.MaxCode+1), 0, api.ErrLimit}, {strings.Repeat("halt\n", api.MaxCode-1) + "x", api.MaxCode - 1, api.ErrEOF}, {strings.Repeat("halt\n", api.MaxCode-1) + "halt", api.MaxCode - 1, api.ErrEOF},
	} {
		got, at, err := isa.Parse(x.s)
		if len(got) != 0 || at != x.at || err != x.err {
			t.Errorf("Parse(%.40q) = %d, %d, %v; want %d, %v", x.s, len(got), at, err, x.at, x.err)
		}
	}
	if got, at, err := isa.Parse(strings.Repeat("halt\n", api.MaxCode)); len(got) != api.MaxCode || at != 0 || err != api.OK {
		t.Error(len(got), at, err)
	}
}

func TestValidate(t *testing.T) {
	types := []api.Type{kfrac, kfix}
	halts := func(l ...api.Instr) []api.Instr {
		for len(l) < 8 {
			l = append(l, api.Instr{Op: api.IHalt})
		}
		return l
	}
	for _, x := range good[:19] {
		if at, err := isa.Validate(halts(x.x), types, 16); at != 0 || err != api.OK {
			t.Errorf("%v: %d, %v", x.x, at, err)
		}
	}
	for _, x := range bad() {
		if at, err := isa.Validate(halts(good[0].x, x), types, 1<<20); at != 1 || err != api.ErrCode {
			t.Errorf("%v: %d, %v", x, at, err)
		}
	}
	for k, x := range []struct {
		l     []api.Instr
		types []api.Type
		words int
		at    int
		err   api.Errno
	}{
		{make([]api.Instr, api.MaxCode+1), []api.Type{{}}, -1, 0, api.ErrLimit}, {nil, []api.Type{{}}, -1, 0, api.ErrArg}, {nil, []api.Type{{}}, api.MaxSteps + 1, 0, api.ErrArg}, {[]api.Instr{{Op: 99}}, []api.Type{kfrac, {}}, 0, 0, api.ErrType}, {nil, nil, 0, 0, 0}, {make([]api.Instr, api.MaxCode), nil, api.MaxSteps, 0, 0},
		{[]api.Instr{{}, {Op: api.IJump, A: 2}}, nil, 0, 1, api.ErrCode}, {[]api.Instr{{}, {Op: api.IJump, A: 1}}, nil, 0, 0, 0}, {[]api.Instr{{Op: api.IJLt, A: 1}}, nil, 0, 0, api.ErrCode}, {[]api.Instr{{Op: api.ITest, A: 1, Val: v(api.CEq, 1), Type: kfrac}}, nil, 0, 0, api.ErrCode}, {[]api.Instr{{Op: api.ILoad, C: 17, Val: v(0, 1)}}, nil, 16, 0, api.ErrCode}, {[]api.Instr{{Op: api.IStore, C: 17, Val: v(0, 1)}}, nil, 16, 0, api.ErrCode}, {[]api.Instr{{Op: api.IStore, C: 16, Val: v(0, 1)}}, nil, 16, 0, 0}, {[]api.Instr{{Op: api.ICast, Val: v(2, 1), Type: kfrac}}, types, 16, 0, api.ErrCode}, {[]api.Instr{{Op: api.ICast, Val: v(1, 1), Type: kfrac}}, types, 16, 0, 0}, {[]api.Instr{{Op: api.IInt, A: 9, B: 77}}, nil, 0, 0, 0}, {[]api.Instr{{Op: api.IStore, C: api.MaxSteps, Val: v(0, 1)}}, nil, api.MaxSteps, 0, 0}, {[]api.Instr{{Op: api.IToInt, C: 1}}, nil, 0, 0, 0}, {[]api.Instr{{Op: api.IToInt, C: api.MaxSize}}, nil, 0, 0, 0}, {[]api.Instr{{Op: api.IToInt}}, nil, 0, 0, api.ErrCode}, {[]api.Instr{{Op: api.IToInt, C: api.MaxSize + 1}}, nil, 0, 0, api.ErrCode},
	} {
		if at, err := isa.Validate(x.l, x.types, x.words); at != x.at || err != x.err {
			t.Errorf("case %d: %d, %v", k, at, err)
		}
	}
}

func TestTargets(t *testing.T) {
	l := []api.Instr{{Op: api.IJump, A: 7}, {Op: api.IInt, A: 3}, {Op: api.IJLt, A: -2}, {Op: api.ITest, A: 7}, {Op: 99, A: 5}}
	if got := isa.Targets(l); !slices.Equal(got, []int{-2, 7}) || len(isa.Targets(nil)) != 0 {
		t.Error(got)
	}
	got := isa.Relocate(l, 10)
	if got[0].A != 17 || got[1].A != 3 || got[2].A != 8 || got[3].A != 17 || got[4].A != 5 || l[0].A != 7 {
		t.Error(got)
	}
	if back := isa.Relocate(got, -10); !slices.Equal(back, l) {
		t.Error(back)
	}
	if got := isa.Relocate(l, math.MaxInt); got[0].A != math.MinInt+6 || !slices.Equal(isa.Relocate(got, -math.MaxInt), l) {
		t.Error(got)
	}
}
