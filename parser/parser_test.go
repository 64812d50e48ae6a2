package parser_test

import (
	"math"
	"strings"
	"testing"

	"brocade/api"
	"brocade/expr"
	"brocade/lexer"
	"brocade/lin"
	"brocade/parser"
	"brocade/printer"
)

func tokens(t *testing.T, s string) []api.Token {
	t.Helper()
	l, at, err := lexer.Tokenize(s)
	if err != api.OK {
		t.Fatalf("%q: %d, %v", s, at, err)
	}
	return l
}

func TestLin(t *testing.T) {
	for _, x := range []struct {
		s    string
		at   int
		want string
		end  int
		err  api.Errno
	}{
		{"2*i - 3 + i", 0, "3*i - 3", 7, 0}, {"-i", 0, "-i", 2, 0}, {"5", 0, "5", 1, 0}, {"0*i", 0, "0", 3, 0}, {"i - i", 0, "0", 3, 0}, {"i j", 0, "i", 1, 0}, {"i * 2", 0, "i", 1, 0}, {"2 i", 0, "2", 1, 0}, {"+ j + 7", 1, "j + 7", 4, 0}, {"j + i - 4*k", 0, "i + j - 4*k", 7, 0}, {"-9223372036854775808", 0, "-9223372036854775808", 2, 0}, {"-9223372036854775808*i", 0, "-9223372036854775808*i", 4, 0}, {"9223372036854775807 - 9223372036854775807", 0, "0", 3, 0},
		{"", 0, "", 0, api.ErrEOF}, {"i", 1, "", 1, api.ErrEOF}, {"-", 0, "", 1, api.ErrEOF}, {"i +", 0, "", 2, api.ErrEOF}, {"2*", 0, "", 2, api.ErrEOF}, {"+i", 0, "", 0, api.ErrSyntax}, {"--i", 0, "", 1, api.ErrSyntax}, {"2*3", 0, "", 2, api.ErrSyntax}, {"i + -2", 0, "", 2, api.ErrSyntax}, {"07", 0, "", 0, api.ErrSyntax}, {"i + 00", 0, "", 2, api.ErrSyntax}, {"2*sum", 0, "", 2, api.ErrSyntax}, {"sum", 0, "", 0, api.ErrSyntax}, {"(i)", 0, "", 0, api.ErrSyntax},
		{"9223372036854775808", 0, "", 0, api.ErrRange}, {"-9223372036854775809", 0, "", 1, api.ErrRange}, {"1 + 9223372036854775807", 0, "", 2, api.ErrRange}, {"i + 9223372036854775807*i", 0, "", 2, api.ErrRange}, {"-1 - 9223372036854775808", 0, "", 3, api.ErrRange}, {"9223372036854775808*", 0, "", 2, api.ErrEOF}, {"9223372036854775808*2", 0, "", 2, api.ErrSyntax}, {"99999999999999999999999*i + +", 0, "", 0, api.ErrRange}, {"9223372036854775807 + 1 - 1", 0, "", 2, api.ErrRange},
		{"i", -1, "", 0, api.ErrArg}, {"i", 2, "", 0, api.ErrArg}, {"i", math.MinInt, "", 0, api.ErrArg},
	} {
		got, end, err := parser.Lin(tokens(t, x.s), x.at)
		if end != x.end || err != x.err || err == api.OK && lin.Format(got) != x.want || err != api.OK && !lin.Same(got, api.Lin{}) {
			t.Errorf("Lin(%q, %d) = %v, %d, %v", x.s, x.at, got, end, err)
		}
	}
	for _, l := range [][]api.Token{{{Kind: api.KNum, Text: "x"}}, {{Kind: api.KNum, Text: ""}}, {{Kind: api.KNum, Text: "-1"}}, {{Kind: api.KName, Text: "Q"}}, {{Kind: 9, Text: "i"}}, {{Kind: api.KName, Text: "1"}}, {{Kind: api.KName, Text: "abcdefghijklmnopq"}}, {{Kind: api.KNum, Text: "i"}}} {
		if _, end, err := parser.Lin(l, 0); end != 0 || err != api.ErrSyntax {
			t.Errorf("Lin(%v) = %d, %v", l, end, err)
		}
	}
}

func TestExprText(t *testing.T) {
	for _, x := range []struct{ s, want string }{
		{"a[i] + b[] * [2]", "a[i] + b[] * [2]"}, {"(a[])", "a[]"}, {"((a[] + b[])) * c[]", "(a[] + b[]) * c[]"}, {"a[] - b[] - c[]", "a[] - b[] - c[]"}, {"a[]-(b[]-c[])", "a[] - (b[] - c[])"}, {"a[]/b[]*c[]", "a[] / b[] * c[]"}, {"--a[]", "--a[]"}, {"-a[]*b[]", "-a[] * b[]"}, {"-(a[]*b[])", "-(a[] * b[])"}, {"a[t[i,2*j],k,u[]]", "a[t[i, 2*j], k, u[]]"}, {"[j+i+1-i]", "[j + 1]"},
		{"a[] < b[]", "a[] < b[]"}, {"!a[]<=b[]&!!a[]==b[]|a[]<b[]", "!a[] <= b[] & !!a[] == b[] | a[] < b[]"}, {"!(a[]<b[]|a[]<b[])", "!(a[] < b[] | a[] < b[])"}, {"(a[] < b[]) & (a[] < b[])", "a[] < b[] & a[] < b[]"}, {"if(a[] < b[], min(a[], b[]), max(a[],b[]))", "if(a[] < b[], min(a[], b[]), max(a[], b[]))"},
		{"int(-5) + int(7)", "int(-5) + int(7)"}, {"frac(-1/2)", "frac(-1/2)"}, {"fix(8,4,even,sat)(3/16)", "fix(8, 4, even, sat)(3/16)"}, {"cast(fix(9, 3, zero, wrap), [i])", "cast(fix(9, 3, zero, wrap), [i])"}, {"cast(frac, int(1)) # end", "cast(frac, int(1))"}, {"int(- 5)", "int(-5)"}, {"fix(2,0,floor,wrap)(1)+fix(2,0,ceil,wrap)(-2)", "fix(2, 0, floor, wrap)(1) + fix(2, 0, ceil, wrap)(-2)"},
	} {
		e, at, err := parser.Expr(x.s)
		if got := printer.Expr(e); got != x.want || at != 0 || err != api.OK {
			t.Errorf("Expr(%q) = %q, %d, %v", x.s, got, at, err)
		}
	}
	e, _, _ := parser.Expr("a[i] - [2] * b[]")
	if e.Op != api.ESub || e.Args[0].Op != api.ERead || e.Args[0].Name != "a" || e.Args[1].Op != api.EMul || e.Args[1].Args[0].Op != api.EIdx || e.Args[1].Args[0].Lin.K != 2 {
		t.Error(e)
	}
}

func TestExprErrors(t *testing.T) {
	for _, x := range []struct {
		s   string
		at  int
		err api.Errno
	}{
		{"", 0, api.ErrEOF}, {"  ", 2, api.ErrEOF}, {"a[", 2, api.ErrEOF}, {"a[i] +* 2", 6, api.ErrSyntax}, {"frac(2/4)", 5, api.ErrSyntax}, {"a", 1, api.ErrEOF}, {"a +", 2, api.ErrSyntax}, {"a[i", 3, api.ErrEOF}, {"a[i]]", 4, api.ErrSyntax}, {"a[i] b[]", 5, api.ErrSyntax}, {"a[i,]", 4, api.ErrSyntax}, {"a[,i]", 2, api.ErrSyntax}, {"a[t[i]", 6, api.ErrEOF}, {"a[t[i] + 1]", 7, api.ErrSyntax}, {"a[1 + t[i]]", 7, api.ErrSyntax}, {"a[-t[i]]", 4, api.ErrSyntax},
		{"2", 0, api.ErrSyntax}, {"i", 1, api.ErrEOF}, {"(a[]", 4, api.ErrEOF}, {"()", 1, api.ErrSyntax}, {"a[])", 3, api.ErrSyntax}, {"[i", 2, api.ErrEOF}, {"[]", 1, api.ErrSyntax}, {"[a[]]", 2, api.ErrSyntax}, {"min(a[])", 7, api.ErrSyntax}, {"min(a[], b[], c[])", 12, api.ErrSyntax}, {"min a[]", 4, api.ErrSyntax}, {"min", 3, api.ErrEOF}, {"if(a[] < b[], a[])", 17, api.ErrSyntax}, {"if(a[] < b[], a[], b[], a[])", 22, api.ErrSyntax}, {"cast(a[], a[])", 5, api.ErrSyntax}, {"cast(int a[])", 9, api.ErrSyntax}, {"cast(int, a[]", 13, api.ErrEOF}, {"sum", 0, api.ErrSyntax}, {"over", 0, api.ErrSyntax}, {"size", 0, api.ErrSyntax}, {"!", 1, api.ErrEOF}, {"-", 1, api.ErrEOF}, {"a[] < ", 6, api.ErrEOF}, {"a[] & & a[]", 6, api.ErrSyntax}, {"a[] = b[]", 4, api.ErrSyntax}, {"a[]; ", 3, api.ErrSyntax}, {"a[] . b[]", 4, api.ErrSyntax},
		{"int", 3, api.ErrEOF}, {"int 5", 4, api.ErrSyntax}, {"int(", 4, api.ErrEOF}, {"int(x)", 4, api.ErrSyntax}, {"int(05)", 4, api.ErrSyntax}, {"int(-05)", 5, api.ErrSyntax}, {"int(--5)", 5, api.ErrSyntax}, {"int(1/2)", 4, api.ErrSyntax}, {"int(1/", 6, api.ErrEOF}, {"int(1/2", 4, api.ErrSyntax}, {"int(1 2)", 6, api.ErrSyntax}, {"int(5", 5, api.ErrEOF}, {"frac(1/1)", 5, api.ErrSyntax}, {"frac(-0)", 5, api.ErrSyntax}, {"int(2147483648)", 4, api.ErrRange}, {"frac(-1/2147483648)", 5, api.ErrRange}, {"int(2147483648 x", 4, api.ErrRange}, {"fix(8, 4, even, sat)(8)", 21, api.ErrRange}, {"fix(8, 4, even, sat)(1/3)", 21, api.ErrSyntax},
		{"fix(1, 4, even, sat)(0)", 0, api.ErrType}, {"fix(8, 31, even, sat)", 0, api.ErrType}, {"a[] + cast(fix(32, 0, even, sat), x", 11, api.ErrType}, {"fix(2147483648, 99, even, sat)(0)", 4, api.ErrRange}, {"fix(2147483647, 2147483648, even, sat)(0)", 16, api.ErrRange}, {"fix(99999999999999999999 x", 4, api.ErrRange}, {"fix(08, 4, even, sat)", 4, api.ErrSyntax}, {"fix(8 4)", 6, api.ErrSyntax}, {"fix(8, 4, round, sat)", 10, api.ErrSyntax}, {"fix(8, 4, even, floor)", 16, api.ErrSyntax}, {"fix(8, 4, even, sat", 19, api.ErrEOF}, {"fix", 3, api.ErrEOF}, {"fix(-8", 4, api.ErrSyntax}, {"fix(1, 4, even, sat", 19, api.ErrEOF},
		{"[9223372036854775808]", 1, api.ErrRange}, {"a[i, 1 + 9223372036854775807]", 9, api.ErrRange},
		{"a[] + (a[] < b[])", 0, api.ErrType}, {" (a[] < b[]) < c[]", 1, api.ErrType}, {"!a[]", 0, api.ErrType}, {"a[] < b[] < c[]", 0, api.ErrType}, {"if(a[], b[], c[])", 0, api.ErrType}, {"a[0,0,0,0,0,0,0]", 0, api.ErrRank}, {"a[] + !b[]", 6, api.ErrSyntax}, {"a[] < !b[]", 6, api.ErrSyntax}, {"-!a[]", 1, api.ErrSyntax}, {"a[0,0,0,0,0,0,0] )", 0, api.ErrRank}, {"a[] $", 4, api.ErrSyntax}, {"abcdefghijklmnopq $", 0, api.ErrLimit}, {"$ abcdefghijklmnopq", 0, api.ErrSyntax},
		{strings.Repeat("(", 160) + "a[]" + strings.Repeat(")", 160), 0, api.OK}, {strings.Repeat("(", 161) + "a[]" + strings.Repeat(")", 161), 160, api.ErrDepth}, {strings.Repeat("(", 160) + "-a[]", 160, api.ErrDepth}, {strings.Repeat("-", 161) + "a[]", 160, api.ErrDepth}, {strings.Repeat("-", 160) + "a[]", 0, api.ErrDepth}, {strings.Repeat("!", 161), 160, api.ErrDepth}, {strings.Repeat("!", 160), 160, api.ErrEOF}, {strings.Repeat("(", 160) + "min(", 163, api.ErrDepth}, {strings.Repeat("(", 160) + "min", 163, api.ErrEOF}, {strings.Repeat("(", 160) + "cast(", 164, api.ErrDepth}, {strings.Repeat("(", 160) + "if(", 162, api.ErrDepth}, {strings.Repeat("(", 160) + "int(1)" + strings.Repeat(")", 160), 0, api.OK}, {strings.Repeat("(", 160) + "fix(8, 4, even, sat)(-1)" + strings.Repeat(")", 160), 0, api.OK}, {strings.Repeat("(-a[])+", 38) + "a[]", 0, api.OK}, {strings.Repeat("(-a[])+", 300) + "a[]", 0, api.ErrDepth}, {strings.Repeat("(", 50000), 160, api.ErrDepth},
		{strings.Repeat("a[]+", 5000) + "a[]", 0, api.ErrDepth}, {strings.Repeat(" ", 65537), 0, api.ErrLimit},
	} {
		e, at, err := parser.Expr(x.s)
		if at != x.at || err != x.err || err != api.OK && !expr.Same(e, api.Expr{}) {
			t.Errorf("Expr(%.50q) = %d, %v; want %d, %v", x.s, at, err, x.at, x.err)
		}
	}
}

func TestExprAt(t *testing.T) {
	l := tokens(t, "; a[i] * -b[] , (c[] <")
	e, end, err := parser.ExprAt(l, 1)
	if printer.Expr(e) != "a[i] * -b[]" || end != 10 || err != api.OK {
		t.Error(e, end, err)
	}
	for _, x := range []struct {
		at, end int
		err     api.Errno
	}{{0, 0, api.ErrSyntax}, {11, 16, api.ErrEOF}, {16, 16, api.ErrEOF}, {17, 0, api.ErrArg}, {-1, 0, api.ErrArg}} {
		if e, end, err := parser.ExprAt(l, x.at); end != x.end || err != x.err || !expr.Same(e, api.Expr{}) {
			t.Errorf("ExprAt(%d) = %v, %d, %v", x.at, e, end, err)
		}
	}
	if _, end, err := parser.ExprAt(tokens(t, "x ( a[] < b[] ) + c[] ;"), 1); end != 1 || err != api.ErrType {
		t.Error(end, err)
	}
	for _, l := range [][]api.Token{{{Kind: api.KSign, Text: "int"}}, {{Kind: api.KName, Text: "("}}, {{Kind: -7, Text: "["}}, {{Kind: api.KSign, Text: ""}}} {
		if _, end, err := parser.ExprAt(l, 0); end != 0 || err != api.ErrSyntax {
			t.Errorf("%v: %d, %v", l, end, err)
		}
	}
}

const whole = "size n, m;\nwhere 0 <= n - 1;\nwhere 0 == m - n;\nin a: frac[n, 2];\nin b: int[];\ndef s: frac[] = sum i < n: a[i, 0];\ndef u: int[i < n, j < 2*n + 1] = [i] - b[];\ndef v: frac[] = min i < n: min(a[i, 0], a[i, 1]);\ndef w: int[] = max: max(b[], int(3));\ndef x: int[] = max(b[], int(3));\ndef y: frac[i < n] = scan: a[i, 0];\ndef z: frac[] = prod i < n, j < 2: a[i, j];\nout s, b;\n"

func TestProg(t *testing.T) {
	p, at, err := parser.Prog(whole)
	if printer.Prog(p) != whole || at != 0 || err != api.OK {
		t.Errorf("%q, %d, %v", printer.Prog(p), at, err)
	}
	mixed := "out s; # mixed\nin b:int[]; def s:int[]=b[]; size k; size n,m; out b,b; in a:frac[n,2];where 0==n-m;size n;"
	p, _, err = parser.Prog(mixed)
	if want := "size k, n, m, n;\nwhere 0 == -m + n;\nin b: int[];\nin a: frac[n, 2];\ndef s: int[] = b[];\nout s, b, b;\n"; printer.Prog(p) != want || err != api.OK {
		t.Errorf("%q, %v", printer.Prog(p), err)
	}
	if p, at, err := parser.Prog(" # nothing"); len(p.Sizes)+len(p.Where)+len(p.Params)+len(p.Defs)+len(p.Outs) != 0 || at != 0 || err != api.OK {
		t.Error(p, at, err)
	}
}

func TestProgErrors(t *testing.T) {
	for _, x := range []struct {
		s   string
		at  int
		err api.Errno
	}{
		{"size", 4, api.ErrEOF}, {"size ;", 5, api.ErrSyntax}, {"size n", 6, api.ErrEOF}, {"size n,;", 7, api.ErrSyntax}, {"size n m;", 7, api.ErrSyntax}, {"size 3;", 5, api.ErrSyntax}, {"size in;", 5, api.ErrSyntax}, {"n;", 0, api.ErrSyntax}, {";", 0, api.ErrSyntax}, {"size n;;", 7, api.ErrSyntax}, {"sum", 0, api.ErrSyntax},
		{"where 1 <= n;", 6, api.ErrSyntax}, {"where n;", 6, api.ErrSyntax}, {"where 0 < n;", 8, api.ErrSyntax}, {"where 0 <= ;", 11, api.ErrSyntax}, {"where 00 <= n;", 6, api.ErrSyntax}, {"where 0 == n", 12, api.ErrEOF}, {"where 0 <= 9223372036854775808;", 11, api.ErrRange},
		{"in a", 4, api.ErrEOF}, {"in a frac[];", 5, api.ErrSyntax}, {"in a: real[];", 6, api.ErrSyntax}, {"in a: frac;", 10, api.ErrSyntax}, {"in a: frac[n;", 12, api.ErrSyntax}, {"in a: frac[n,];", 13, api.ErrSyntax}, {"in a: frac[]", 12, api.ErrEOF}, {"in a: fix(99, 0, even, sat)[];", 6, api.ErrType}, {"in a: frac[t[n]];", 12, api.ErrSyntax},
		{"def s: frac[] = ;", 16, api.ErrSyntax}, {"def s: frac[];", 13, api.ErrSyntax}, {"def s: frac[i] = a[];", 13, api.ErrSyntax}, {"def s: frac[i < ] = a[];", 16, api.ErrSyntax}, {"def s: frac[i < n,] = a[];", 18, api.ErrSyntax}, {"def s: frac[i < n j < m] = a[];", 18, api.ErrSyntax}, {"def s: frac[] = sum: ;", 21, api.ErrSyntax}, {"def s: frac[] = sum (a[]);", 20, api.ErrSyntax}, {"def s: frac[] = sum i: a[];", 21, api.ErrSyntax}, {"def s: frac[] = sum i < n a[];", 26, api.ErrSyntax}, {"def s: frac[] = sum i < n, : a[];", 27, api.ErrSyntax}, {"def s: frac[] = min a[];", 21, api.ErrSyntax}, {"def s: frac[] = min: (a[]", 25, api.ErrEOF}, {"def s: frac[] = max", 19, api.ErrEOF}, {"def s: frac[] = over i < n: a[];", 16, api.ErrSyntax}, {"def s: frac[] = a[] b[];", 20, api.ErrSyntax}, {"def s: frac[] = a[]", 19, api.ErrEOF},
		{"size n; def s: frac[] = sum i < n: a[] + (a[] < a[]); out", 35, api.ErrType}, {"def s: frac[] = a[] < (a[] < a[]) x", 16, api.ErrType}, {"def s: frac[] = frac(3/6);", 21, api.ErrSyntax}, {"out", 3, api.ErrEOF}, {"out s,", 6, api.ErrEOF}, {"out s $", 6, api.ErrSyntax}, {"size n; abcdefghijklmnopq", 8, api.ErrLimit}, {strings.Repeat(" ", 65537), 0, api.ErrLimit},
	} {
		p, at, err := parser.Prog(x.s)
		if at != x.at || err != x.err || len(p.Sizes)+len(p.Where)+len(p.Params)+len(p.Defs)+len(p.Outs) != 0 {
			t.Errorf("Prog(%.60q) = %d, %v; want %d, %v", x.s, at, err, x.at, x.err)
		}
	}
}

// draw makes a random valid expression.
func draw(next func(int) int, depth int, cond bool) api.Expr {
	types := []api.Type{{Kind: api.KInt}, {Kind: api.KFrac}, {Kind: api.KFix, Bits: 8, Frac: 4, Round: 1 + next(4), Over: 1 + next(2)}}
	f := func() api.Lin {
		l := api.Lin{K: int64(next(7) - 3)}
		for _, n := range []string{"i", "j", "k2"} {
			if by := next(7) - 3; by != 0 {
				l.L = append(l.L, api.Mono{Name: n, By: int64(by)})
			}
		}
		return l
	}
	if cond {
		if o := api.CLt + next(6); depth > 1 && o > api.CEq {
			e := api.Expr{Op: o, Args: []api.Expr{draw(next, depth-1, true)}}
			if o != api.CNot {
				e.Args = append(e.Args, draw(next, depth-1, true))
			}
			return e
		}
		return api.Expr{Op: api.CLt + next(3), Args: []api.Expr{draw(next, depth-1, false), draw(next, depth-1, false)}}
	}
	o := api.EVal + next(12)
	if depth <= 0 {
		o = api.EVal + next(3)
	}
	e := api.Expr{Op: o}
	switch o {
	case api.EVal:
		e.Type, e.Val = types[next(3)], api.Val{N: int64(next(40) - 20), D: 1}
	case api.EIdx:
		e.Lin = f()
	case api.ERead:
		e.Name = "a"
		for range next(3) {
			x := api.Index{Lin: f()}
			if next(3) == 0 {
				x = api.Index{From: "t", At: []api.Lin{f(), f()}[:next(3)]}
			}
			e.Idx = append(e.Idx, x)
		}
	case api.EIf:
		e.Args = []api.Expr{draw(next, depth-1, true), draw(next, depth-1, false), draw(next, depth-1, false)}
	case api.ENeg, api.ECast:
		e.Args = []api.Expr{draw(next, depth-1, false)}
		if o == api.ECast {
			e.Type = types[next(3)]
		}
	default:
		e.Args = []api.Expr{draw(next, depth-1, false), draw(next, depth-1, false)}
	}
	return e
}

// TestRoundTrip holds P16.5 and P15.6 for random expressions.
func TestRoundTrip(t *testing.T) {
	seed := uint64(5)
	next := func(n int) int {
		seed = seed*6364136223846793005 + 1442695040888963407
		return int(seed>>33) % n
	}
	seen := map[string]api.Expr{}
	for k := range 2000 {
		e := draw(next, k%6, k%5 == 0)
		if expr.Validate(e) != api.OK {
			t.Fatalf("the test draws an invalid expression %v", e)
		}
		s := printer.Expr(e)
		if other, found := seen[s]; found && !expr.Same(e, other) {
			t.Fatalf("two expressions have the text %q", s)
		}
		seen[s] = e
		got, at, err := parser.Expr(s)
		if !expr.Same(got, e) || at != 0 || err != api.OK {
			t.Fatalf("%q: %q, %d, %v", s, printer.Expr(got), at, err)
		}
		l := tokens(t, s)
		loose := "( # remark\n\t" + strings.ReplaceAll(lexer.Join(l), " ", "\r\n ") + ") "
		if got, _, err := parser.Expr(loose); !expr.Same(got, e) || err != api.OK {
			t.Fatalf("%q: %v", loose, err)
		}
		for cut := range l {
			if _, end, err := parser.ExprAt(l[:cut], 0); err == api.ErrSyntax || err == api.ErrEOF && end != cut {
				t.Fatalf("%q cut at %d: %d, %v", s, cut, end, err)
			}
		}
	}
}
