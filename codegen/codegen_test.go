package codegen_test

import (
	"slices"
	"strings"
	"testing"

	"brocade/api"
	"brocade/arena"
	"brocade/codegen"
	"brocade/isa"
	"brocade/liveness"
	"brocade/nesttext"
)

func parse(t *testing.T, s string) api.Nest {
	t.Helper()
	n, ok := nesttext.Parse(s)
	if !ok {
		t.Fatalf("%q is no nest", s)
	}
	return n
}

func check(t *testing.T, s, want string) {
	t.Helper()
	n := parse(t, s)
	u, err := codegen.Compile(n)
	if err != api.OK {
		t.Fatalf("%q: %v", s, err)
	}
	want = strings.ReplaceAll(want, "; ", "\n") + "\n"
	if got := isa.Format(u.Code); got != want {
		t.Errorf("%q:\n%s\nwant\n%s", s, got, want)
	}
	holds(t, n, u)
}

// holds checks P48.3 and P48.4.
func holds(t *testing.T, n api.Nest, u codegen.Unit) {
	t.Helper()
	if at, err := isa.Validate(u.Code, u.Types, u.Words); err != api.OK {
		t.Errorf("instruction %d: %v", at, err)
	}
	lives, _ := liveness.Analyze(n)
	slots, words, _ := arena.Plan(lives)
	if at, err := arena.Check(lives, u.Slots, u.Words); err != api.OK || !slices.Equal(slots, u.Slots) || words != u.Words || !slices.Equal(u.Types, codegen.Types(n)) {
		t.Errorf("slot %d: %v", at, err)
	}
	for i, x := range u.Code {
		inside := slices.ContainsFunc(u.Slots, func(s api.Slot) bool { return int(x.Val.N) == s.At && x.C == s.At+s.Len })
		if (x.Op == api.ILoad && x.A != 255 || x.Op == api.IStore) && !inside {
			t.Errorf("instruction %d: %v is the range of no buffer", i, x)
		}
	}
}

const zeroB = "const r0 0; int x100 0; store r0 x100 0 1; int x101 1; add x100 x100 x101; int x102 1; jlt 2 x100 x102; "

func TestExample(t *testing.T) {
	check(t, "b: frac[] out; b[] = frac(2)", zeroB+"const r0 2; int x100 0; store r0 x100 0 1; halt")
	check(t, "b: frac[] out", "halt")
	check(t, "b: frac[] out; b[] sum= frac(2)", zeroB+"const r0 2; int x100 0; load r1 x100 0 1; op add r1 r1 r0 frac; store r1 x100 0 1; halt")
	check(t, "b: frac[] out; b[] min= -frac(2)", zeroB+"const r0 2; op neg r0 r0 frac; int x100 0; load r1 x100 0 1; op min r1 r1 r0 frac; store r1 x100 0 1; halt")
	check(t, "b: int[] out; b[] prod= [3] / int(2) - min([0], int(1))", zeroB+"int x101 3; fromint r0 x101; const r1 2; op div r0 r0 r1 int; int x101 0; fromint r1 x101; const r2 1; op min r1 r1 r2 int; op sub r0 r0 r1 int; int x100 0; load r1 x100 0 1; op mul r1 r1 r0 int; store r1 x100 0 1; halt")
}

func TestConstructs(t *testing.T) {
	// The output lies at 0 (3 cells), the input at 3 (2 cells).
	head := "const r0 0; int x100 0; store r0 x100 0 3; int x101 1; add x100 x100 x101; int x102 3; jlt 2 x100 x102; "
	read := func(r, k string, mono string) string {
		return "int x100 3; int x101 " + k + "; " + mono + "mul x101 x101 1; add x100 x100 x101; load " + r + " x100 3 5; "
	}
	store := func(k, mono string) string {
		return "int x100 0; int x101 " + k + "; " + mono + "mul x101 x101 1; add x100 x100 x101; store r0 x100 0 3; "
	}
	bufs := "c: frac[3] out; a: frac[2] in; "
	i := "mul x103 x0 1; add x101 x101 x103; "
	check(t, bufs+"for i < 2 { c[i + 1] = a[i] }", head+"int x0 0; "+read("r0", "0", i)+store("1", i)+"int x101 1; add x0 x0 x101; int x102 2; jlt 8 x0 x102; halt")
	check(t, bufs+"for i < 2 unroll { c[1] = a[-2*i] }", head+"int x0 0; "+read("r0", "0", "mul x103 x0 -2; add x101 x101 x103; ")+store("1", "")+"int x0 1; "+read("r0", "0", "mul x103 x0 -2; add x101 x101 x103; ")+store("1", "")+"halt")
	check(t, bufs+"if a[0] < a[1] { c[0] = a[0] }", head+read("r0", "0", "")+read("r1", "1", "")+"int x120 0; test lt 20 r0 r1 frac; int x120 1; int x121 1; jlt 32 x120 x121; "+read("r0", "0", "")+store("0", "")+"halt")
	check(t, bufs+"c[0] = if(a[0] <= frac(1) & !(a[1] == frac(2)) | frac(1) < frac(2), frac(3), frac(4))", head+read("r0", "0", "")+"const r1 1; int x120 0; test le 16 r0 r1 frac; int x120 1; "+read("r0", "1", "")+"const r1 2; int x121 0; test eq 25 r0 r1 frac; int x121 1; mul x121 x121 -1; int x122 1; add x121 x121 x122; min x120 x120 x121; const r0 1; const r1 2; int x121 0; test lt 34 r0 r1 frac; int x121 1; max x120 x120 x121; int x121 1; jlt 39 x120 x121; const r0 3; jump 40; const r0 4; "+store("0", "")+"halt")
	// Loops of depth 1 use X[1]; max folds; casts name the type of their operand.
	check(t, "c: int[] out; for i < 2 { for j < 3 { c[] max= cast(int, cast(frac, [i - j])) } }", "const r0 0; int x100 0; store r0 x100 0 1; int x101 1; add x100 x100 x101; int x102 1; jlt 2 x100 x102; int x0 0; int x1 0; int x101 0; mul x103 x0 1; add x101 x101 x103; mul x103 x1 -1; add x101 x101 x103; fromint r0 x101; cast r0 r0 0 frac; cast r0 r0 1 int; int x100 0; load r1 x100 0 1; op max r1 r1 r0 int; store r1 x100 0 1; int x101 1; add x1 x1 x101; int x102 3; jlt 9 x1 x102; int x101 1; add x0 x0 x101; int x102 2; jlt 8 x0 x102; halt")
	// Two dimensions are checked one by one; m lies at 0 (6 cells), t at 6 (4 cells).
	check(t, "m: int[2, 3] in; t: int[2, 2] in; c: int[] temp; m2: int[] temp; c[] = m[t[1, 0], 2]", "const r0 0; int x100 10; store r0 x100 10 11; int x101 1; add x100 x100 x101; int x102 11; jlt 2 x100 x102; const r0 0; int x100 11; store r0 x100 11 12; int x101 1; add x100 x100 x101; int x102 12; jlt 9 x100 x102; int x100 0; int x104 6; int x105 1; load r255 x105 0 2; mul x105 x105 2; add x104 x104 x105; int x105 0; load r255 x105 0 2; mul x105 x105 1; add x104 x104 x105; load r254 x104 6 10; toint x101 r254 2; mul x101 x101 3; add x100 x100 x101; int x101 2; load r255 x101 0 3; mul x101 x101 1; add x100 x100 x101; load r0 x100 0 6; int x100 10; store r0 x100 10 11; halt")
}

func TestClearing(t *testing.T) {
	// A buffer is cleared ahead of the first statement that accesses it.
	n := parse(t, "a: frac[] in; t: frac[2] temp; u: frac[2] temp; o: frac[] out; t[0] = a[]; u[1] = t[0]; o[] = u[0]")
	u, err := codegen.Compile(n)
	if err != api.OK {
		t.Fatal(err)
	}
	var zeros []int
	for i, x := range u.Code {
		if x.Op == api.IConst && x.Val == (api.Val{N: 0, D: 1}) {
			zeros = append(zeros, u.Code[i+1].B)
		}
	}
	if want := []int{u.Slots[1].At, u.Slots[2].At, u.Slots[3].At}; !slices.Equal(zeros, want) {
		t.Errorf("%v; want %v", zeros, want)
	}
	holds(t, n, u)
}

func TestTypes(t *testing.T) {
	n := parse(t, "a: frac[] in; b: frac[] out; f: fix(8, 4, even, sat)[] temp; if [0] < [1] { b[] = cast(frac, f[]) }; for i < 2 { b[] = if(fix(9, 4, even, sat)(1) < cast(fix(9, 3, even, sat), a[]), a[], frac(1)) }")
	fix := func(bits, f int) api.Type {
		return api.Type{Kind: api.KFix, Bits: bits, Frac: f, Round: api.REven, Over: api.OSat}
	}
	want := []api.Type{{Kind: api.KFrac}, fix(8, 4), {Kind: api.KInt}, fix(9, 4), fix(9, 3)}
	if got := codegen.Types(n); !slices.Equal(got, want) {
		t.Error(got)
	}
	odd := api.Nest{Bufs: []api.Buffer{{}}, Body: []api.Stmt{{Expr: api.Expr{Op: 77, Type: fix(1, 1), Args: []api.Expr{{Op: api.EVal, Type: fix(2, 2)}}}}}}
	if got := codegen.Types(odd); !slices.Equal(got, []api.Type{{}, fix(2, 2)}) || len(codegen.Types(api.Nest{})) != 0 {
		t.Error(got)
	}
}

func TestErrors(t *testing.T) {
	const bufs = "c: frac[3] out; a: frac[2] in; t: int[] in; "
	var many strings.Builder
	many.WriteString("c: int[] out; ")
	for bits := 2; bits <= 31; bits++ {
		for _, how := range []string{"floor", "ceil", "zero", "even"} {
			for _, f := range []string{"0", "1", "2"} {
				many.WriteString("c[] = cast(int, fix(" + itoa(bits) + ", " + f + ", " + how + ", sat)(0)); ")
			}
		}
	}
	for k, x := range []struct {
		s   string
		err api.Errno
	}{
		{bufs + "c[q] = a[0]", api.ErrNotFound}, {bufs + "for i < 2 { c[2147483647*i] = a[0] }", 0}, {bufs + "for i < 2 { c[2147483648*i] = a[0] }", api.ErrRange}, {bufs + "c[-2147483648] = a[0]", api.ErrRange}, {bufs + "c[0] = a[2147483648]", api.ErrRange}, {bufs + "c[0] = a[t[]] + cast(frac, [-2147483647])", 0}, {bufs + "if [2147483648] < [0] { }", api.ErrRange}, {"u: int[2] in; " + bufs + "c[u[2147483648]] = a[0]", api.ErrRange},
		{bufs + "for i < 65536 unroll { c[0] = a[0] }", api.ErrLimit}, {bufs + "for i < 4000 unroll { for j < 4000 unroll { for k < 4000 unroll { c[0] = a[0] } } }", api.ErrLimit}, {bufs + "for i < 6000 unroll { c[0] = frac(1) }", 0}, {many.String(), api.ErrLimit}, {many.String() + "c[] = [2147483648]", api.ErrLimit},
	} {
		n := parse(t, x.s)
		u, err := codegen.Compile(n)
		if err != x.err || err != api.OK && len(u.Code)+len(u.Types)+len(u.Slots)+u.Words != 0 {
			t.Errorf("case %d: %v; want %v", k, err, x.err)
		}
		if err == api.OK {
			holds(t, n, u)
		}
	}
}

func itoa(n int) string {
	if n < 10 {
		return string(rune('0' + n))
	}
	return string(rune('0'+n/10)) + string(rune('0'+n%10))
}

// TestManyTypes compiles nests of 256 and of 257 types.
func TestManyTypes(t *testing.T) {
	var b strings.Builder
	b.WriteString("c: int[] out; ")
	types := 1
	for bits := 20; types < 256; bits++ {
		for f := range 19 {
			for _, how := range []string{"floor", "ceil"} {
				if types < 256 {
					b.WriteString("c[] = cast(int, fix(" + itoa(bits) + ", " + itoa(f) + ", " + how + ", sat)(0)); ")
					types++
				}
			}
		}
	}
	n := parse(t, b.String()+"c[] = int(1)")
	if u, err := codegen.Compile(n); err != api.OK || len(u.Types) != 256 || len(codegen.Types(n)) != 256 {
		t.Error(len(u.Types), err)
	}
	n = parse(t, b.String()+"c[] = cast(int, frac(1))")
	if u, err := codegen.Compile(n); err != api.ErrLimit || len(u.Types) != 0 || len(codegen.Types(n)) != 257 {
		t.Error(len(u.Types), err)
	}
}

// TestLimit finds the greatest program that fits.
func TestLimit(t *testing.T) {
	for many := 1; ; many *= 2 {
		n := parse(t, "c: frac[] out; for i < 65536 unroll { c[] = frac(1) }")
		n.Body[0].Many = min(many, 65536)
		u, err := codegen.Compile(n)
		want := 7 + 4*n.Body[0].Many + 1
		if fits := want <= api.MaxCode; fits != (err == api.OK) || fits && len(u.Code) != want {
			t.Errorf("%d iterations: %d, %v", n.Body[0].Many, len(u.Code), err)
		}
		if many >= 65536 {
			break
		}
	}
	n := parse(t, "c: frac[] out; for i < 16382 unroll { c[] = frac(1) }")
	if u, err := codegen.Compile(n); err != api.OK || len(u.Code) != api.MaxCode {
		t.Error(len(u.Code), err)
	}
	n.Body[0].Many++
	if _, err := codegen.Compile(n); err != api.ErrLimit {
		t.Error(err)
	}
}
