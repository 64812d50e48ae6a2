package loopnest_test

import (
	"slices"
	"strconv"
	"strings"
	"testing"

	"brocade/api"
	"brocade/lin"
	"brocade/loopnest"
	"brocade/nesttext"
)

func parse(t *testing.T, s string) api.Nest {
	t.Helper()
	n, ok := nesttext.Parse(s)
	if !ok {
		t.Fatalf("%q is no nest", s)
	}
	return n
}

const (
	bufs  = "a: frac[2] in; c: frac[2] out; t: int[2, 2] in; s: fix(8, 4, even, sat)[] temp; "
	whole = bufs + "for i < 2 { if a[i] < c[0] & [i] <= [1] { c[i] = a[t[i, 0]]; for j < 3 vector { c[i] sum= a[0] } }; s[] = cast(fix(8, 4, even, sat), a[i]) }; for k < 2 parallel { for l < 1 unroll { c[k] prod= a[1]; c[k] min= a[k]; c[k] max= a[k] } }"
)

func TestFormat(t *testing.T) {
	want := "a: frac[2] in\nc: frac[2] out\nt: int[2, 2] in\ns: fix(8, 4, even, sat)[] temp\nfor i < 2 {\n  if a[i] < c[0] & [i] <= [1] {\n    c[i] = a[t[i, 0]]\n    for j < 3 vector {\n      c[i] sum= a[0]\n    }\n  }\n  s[] = cast(fix(8, 4, even, sat), a[i])\n}\nfor k < 2 parallel {\n  for l < 1 unroll {\n    c[k] prod= a[1]\n    c[k] min= a[k]\n    c[k] max= a[k]\n  }\n}\n"
	n := parse(t, whole)
	if got := loopnest.Format(n); got != want {
		t.Errorf("%s", got)
	}
	if way, err := loopnest.Validate(n); way != nil || err != api.OK {
		t.Error(way, err)
	}
	if loopnest.Format(api.Nest{}) != "" {
		t.Error("the empty nest")
	}
}

func TestValidate(t *testing.T) {
	for _, x := range []struct {
		s   string
		way []int
		err api.Errno
	}{
		{"", nil, 0}, {"for i < 2 { }", nil, 0}, {"for i < 2 { }; for i < 2 { }", []int{1}, api.ErrDuplicate}, {"for i < 2 { for i < 2 { } }", []int{0, 0}, api.ErrDuplicate}, {"for a < 2 { }", []int{0}, api.ErrDuplicate}, {"for I < 0 { }", []int{0}, api.ErrName}, {"for i < 0 { }", []int{0}, api.ErrArg}, {"for i < 65536 { }", nil, 0}, {"for i < 65537 { }", []int{0}, api.ErrArg},
		{"for i < 2 { c[i] = a[j] }", []int{0, 0}, api.ErrNotFound}, {"for i < 2 { }; c[i] = a[0]", []int{1}, api.ErrNotFound}, {"for i < 2 { c[i] = q[i] }", []int{0, 0}, api.ErrNotFound}, {"c[0] = a[]", []int{0}, api.ErrRank}, {"c[] = a[0]", []int{0}, api.ErrRank}, {"q[0] = a[0]", []int{0}, api.ErrNotFound}, {"c[q[0]] = a[0]", []int{0}, api.ErrNotFound}, {"c[a[0]] = a[0]", []int{0}, api.ErrType}, {"c[t[0]] = a[0]", []int{0}, api.ErrRank}, {"c[t[0, i]] = a[0]", []int{0}, api.ErrNotFound}, {"c[t[0, 1]] = a[0]", nil, 0},
		{"a[0] = c[0]", []int{0}, api.ErrArg}, {"a[0] = q[0]", []int{0}, api.ErrArg}, {"a[i] = q[0]", []int{0}, api.ErrNotFound}, {"c[0] = t[0, 0]", []int{0}, api.ErrType}, {"c[0] = a[0] + t[0, 0]", []int{0}, api.ErrType}, {"c[0] = if(a[0] < t[0, 0], a[0], a[0])", []int{0}, api.ErrType}, {"c[0] = if(a[0] < a[0], a[0], [1])", []int{0}, api.ErrType}, {"c[0] = (a[0] + t[0, 0]) * q[0]", []int{0}, api.ErrNotFound}, {"c[0] = a[0] < a[1]", []int{0}, api.ErrType}, {"c[0] = -cast(frac, [1]) / min(a[0], c[1])", nil, 0}, {"if a[0] { }", []int{0}, api.ErrType}, {"if a[0] < [1] { }", []int{0}, api.ErrType}, {"if a[0] < q[1] { }", []int{0}, api.ErrNotFound}, {"if a[0] < a[1] { c[0] = a[0]; c[5] = a[9]; if !(a[0] < a[1]) { c[0] = q[0] } }", []int{0, 2, 0}, api.ErrNotFound},
	} {
		way, err := loopnest.Validate(parse(t, bufs+x.s))
		if !slices.Equal(way, x.way) || err != x.err {
			t.Errorf("%q: %v, %v; want %v, %v", x.s, way, err, x.way, x.err)
		}
	}
}

func TestValidateFields(t *testing.T) {
	deep := func(many int) []api.Stmt {
		var l []api.Stmt
		for i := range many {
			l = []api.Stmt{{Op: api.SFor, Name: "x" + strconv.Itoa(i), Many: 1, Body: l}}
		}
		return l
	}
	for k, x := range []struct {
		change func(n *api.Nest)
		way    []int
		err    api.Errno
	}{
		{func(n *api.Nest) { n.Body = deep(40) }, nil, 0}, {func(n *api.Nest) { n.Body = append(deep(41), make([]api.Stmt, 3000)...) }, nil, api.ErrDepth}, {func(n *api.Nest) { n.Body = make([]api.Stmt, 2001); n.Bufs[0].Name = "" }, nil, api.ErrLimit}, {func(n *api.Nest) { n.Bufs = make([]api.Buffer, 129) }, nil, api.ErrLimit}, {func(n *api.Nest) { n.Bufs = make([]api.Buffer, 128) }, nil, api.ErrName}, {func(n *api.Nest) { n.Body = make([]api.Stmt, 2000) }, []int{0}, api.ErrSyntax}, {func(n *api.Nest) { n.Bufs[0].Name = "in"; n.Bufs[0].Type.Kind = 0 }, nil, api.ErrName}, {func(n *api.Nest) { n.Bufs[1].Name = "a"; n.Bufs[1].Type.Kind = 0 }, nil, api.ErrDuplicate}, {func(n *api.Nest) { n.Bufs[1].Type.Kind = 0; n.Bufs[1].Dims[0] = 0 }, nil, api.ErrType}, {func(n *api.Nest) { n.Bufs[1].Dims[0] = 0; n.Bufs[1].Use = 9 }, nil, api.ErrArg}, {func(n *api.Nest) { n.Bufs[1].Dims[0] = 5000 }, nil, api.ErrLimit}, {func(n *api.Nest) { n.Bufs[1].Use = 0; n.Body[0].Op = 0 }, nil, api.ErrArg}, {func(n *api.Nest) { n.Bufs[1].Use = 4 }, nil, api.ErrArg},
		{func(n *api.Nest) { n.Body[0].Op = 5 }, []int{0}, api.ErrSyntax}, {func(n *api.Nest) { n.Body[0].Op = 0 }, []int{0}, api.ErrSyntax}, {func(n *api.Nest) { n.Body[0].Fold = 1 }, []int{0}, api.ErrSyntax}, {func(n *api.Nest) { n.Body[0].Idx = make([]api.Index, 1) }, []int{0}, api.ErrSyntax}, {func(n *api.Nest) { n.Body[0].Expr.Lin.K = 1; n.Body[0].Name = "" }, []int{0}, api.ErrSyntax}, {func(n *api.Nest) { n.Body[0].Mark = 4 }, []int{0}, api.ErrArg}, {func(n *api.Nest) { n.Body[0].Mark = -1 }, []int{0}, api.ErrArg}, {func(n *api.Nest) { n.Body[0].Many = -1 }, []int{0}, api.ErrArg},
		{func(n *api.Nest) { n.Body[0].Body[0].Name = "x" }, []int{0, 0}, api.ErrSyntax}, {func(n *api.Nest) { n.Body[0].Body[0].Many = 1 }, []int{0, 0}, api.ErrSyntax}, {func(n *api.Nest) { n.Body[0].Body[0].Mark = 1 }, []int{0, 0}, api.ErrSyntax}, {func(n *api.Nest) { n.Body[0].Body[0].Expr.Args = nil }, []int{0, 0}, api.ErrRank}, {func(n *api.Nest) { n.Body[0].Body[0].Body[0].Fold = 1 }, []int{0, 0, 0}, api.ErrSyntax}, {func(n *api.Nest) { n.Body[0].Body[0].Body[0].Body = make([]api.Stmt, 1) }, []int{0, 0, 0}, api.ErrSyntax}, {func(n *api.Nest) { n.Body[0].Body[0].Body[0].Many = 3 }, []int{0, 0, 0}, api.ErrSyntax}, {func(n *api.Nest) { n.Body[0].Body[0].Body[0].Name = "" }, []int{0, 0, 0}, api.ErrName}, {func(n *api.Nest) { n.Body[1].Body[0].Body[0].Fold = api.FScan }, []int{1, 0, 0}, api.ErrArg}, {func(n *api.Nest) { n.Body[1].Body[0].Body[2].Fold = 0 }, []int{1, 0, 2}, api.ErrArg}, {func(n *api.Nest) { n.Body[1].Body[0].Body[1].Expr = api.Expr{} }, []int{1, 0, 1}, api.ErrSyntax},
	} {
		n := parse(t, whole)
		x.change(&n)
		if way, err := loopnest.Validate(n); !slices.Equal(way, x.way) || err != x.err {
			t.Errorf("change %d: %v, %v; want %v, %v", k, way, err, x.way, x.err)
		}
	}
}

func TestNavigation(t *testing.T) {
	n := parse(t, whole)
	if loopnest.Size(n) != 11 || loopnest.Size(api.Nest{}) != 0 || !slices.Equal(loopnest.Loops(n), []string{"i", "j", "k", "l"}) {
		t.Error(loopnest.Size(n), loopnest.Loops(n))
	}
	for name, want := range map[string][]int{"i": {0}, "j": {0, 0, 1}, "k": {1}, "l": {1, 0}, "a": nil, "": nil} {
		if way, ok := loopnest.Find(n, name); !slices.Equal(way, want) || ok != (want != nil) {
			t.Errorf("Find(%q) = %v, %v", name, way, ok)
		}
	}
	for _, x := range []struct {
		way    []int
		name   string
		ok     bool
		around []api.Binding
	}{{[]int{0}, "i", true, nil}, {[]int{0, 0, 1}, "j", true, []api.Binding{{Name: "i", Val: 2}}}, {[]int{0, 0, 1, 0}, "c", true, []api.Binding{{Name: "i", Val: 2}, {Name: "j", Val: 3}}}, {[]int{1, 0, 2}, "c", true, []api.Binding{{Name: "k", Val: 2}, {Name: "l", Val: 1}}}, {nil, "", false, nil}, {[]int{2}, "", false, nil}, {[]int{-1}, "", false, nil}, {[]int{0, 1, 0}, "", false, nil}, {[]int{0, 5, 0}, "", false, nil}} {
		s, ok := loopnest.At(n, x.way)
		if s.Name != x.name || ok != x.ok {
			t.Errorf("At(%v) = %v, %v", x.way, s, ok)
		}
		if got := loopnest.Enclosing(n, x.way); !slices.Equal(got, x.around) {
			t.Errorf("Enclosing(%v) = %v", x.way, got)
		}
		c := api.Stmt{Op: api.SFor, Name: "z", Many: 9}
		r, ok := loopnest.Replace(n, x.way, c, c)
		if ok != x.ok || !loopnest.Same(n, parse(t, whole)) {
			t.Errorf("Replace(%v): %v", x.way, ok)
		}
		if !ok {
			if !loopnest.Same(r, api.Nest{}) {
				t.Errorf("Replace(%v): a nest beside false", x.way)
			}
			continue
		}
		next := slices.Clone(x.way)
		next[len(next)-1]++
		one, _ := loopnest.At(r, x.way)
		two, _ := loopnest.At(r, next)
		if one.Name != "z" || two.Name != "z" {
			t.Errorf("Replace(%v): %v, %v", x.way, one, two)
		}
		back, _ := loopnest.Replace(r, next)
		if back, _ = loopnest.Replace(back, x.way, s); !loopnest.Same(back, n) {
			t.Errorf("Replace(%v) changes other statements", x.way)
		}
	}
	if b, ok := loopnest.Buffer(n, "t"); !ok || b.Type.Kind != api.KInt || !slices.Equal(b.Dims, []int{2, 2}) {
		t.Error(b, ok)
	}
	if b, ok := loopnest.Buffer(n, "q"); ok || b.Name != "" {
		t.Error(b, ok)
	}
	for base, want := range map[string]string{"i": "i1", "a": "a1", "z": "z", "l": "l1", "": ""} {
		if got := loopnest.FreshName(n, base); got != want {
			t.Errorf("FreshName(%q) = %q", base, got)
		}
	}
	odd := api.Nest{Body: []api.Stmt{{Name: "y", Idx: []api.Index{{At: []api.Lin{lin.Var("u")}}}, Expr: api.Expr{Args: []api.Expr{{Lin: lin.Var("v")}, {Idx: []api.Index{{Lin: lin.Var("v1")}}}}}, Body: []api.Stmt{{Op: api.SFor, Name: "u1"}}}}}
	if loopnest.FreshName(odd, "u") != "u2" || loopnest.FreshName(odd, "v") != "v2" || loopnest.FreshName(odd, "y") != "y" {
		t.Error("FreshName of an invalid nest")
	}
}

func TestRenameAndSubstitute(t *testing.T) {
	n := parse(t, bufs+"for i < 2 { c[i] = a[t[i, 2*i + 1]]; for j < 2 { if [i] < [j] { c[j - i] sum= a[i] } } }")
	r := api.Nest{Bufs: n.Bufs, Body: loopnest.Rename(n.Body, "i", "z")}
	if want := strings.NewReplacer("i <", "z <", "[i]", "[z]", "[i,", "[z,", "2*i", "2*z", "-i + j", "j - z").Replace(loopnest.Format(n)); loopnest.Format(r) != want {
		t.Errorf("%s", loopnest.Format(r))
	}
	if _, err := loopnest.Validate(r); err != api.OK {
		t.Error(err)
	}
	if back := (api.Nest{Bufs: n.Bufs, Body: loopnest.Rename(r.Body, "z", "i")}); !loopnest.Same(back, n) {
		t.Error("renaming back")
	}
	only := api.Nest{Bufs: n.Bufs, Body: loopnest.Rename(n.Body, "i", "sum")}
	if only.Body[0].Name != "sum" || !strings.Contains(loopnest.Format(only), "c[i] = a[t[i, 2*i + 1]]") {
		t.Error("no form may change for a keyword")
	}
	bad := []api.Stmt{{Idx: []api.Index{{Lin: api.Lin{L: []api.Mono{{Name: "i", By: 0}}}}, {Lin: lin.Var("i")}}}}
	if got := loopnest.Rename(bad, "i", "z"); got[0].Idx[0].Lin.L[0].Name != "i" || got[0].Idx[1].Lin.L[0].Name != "z" {
		t.Error(got)
	}
	l, err := loopnest.Substitute(n.Body, "i", lin.Const(3))
	if got := loopnest.Format(api.Nest{Body: l}); err != api.OK || got != "for i < 2 {\n  c[3] = a[t[3, 7]]\n  for j < 2 {\n    if [3] < [j] {\n      c[j - 3] sum= a[3]\n    }\n  }\n}\n" {
		t.Error(got, err)
	}
	for _, x := range []struct {
		l    []api.Stmt
		name string
		to   api.Lin
		err  api.Errno
	}{{bad, "z", lin.Const(1), api.ErrArg}, {n.Body, "sum", lin.Const(1), api.ErrArg}, {n.Body, "i", lin.Const(1 << 62), api.ErrRange}, {append(slices.Clone(n.Body), bad...), "i", lin.Const(1 << 62), api.ErrRange}, {append(slices.Clone(bad), n.Body...), "i", lin.Const(1 << 62), api.ErrArg}, {nil, "sum", lin.Const(1), 0}} {
		if got, err := loopnest.Substitute(x.l, x.name, x.to); err != x.err || len(got) != 0 {
			t.Errorf("Substitute for %s: %v, %v", x.name, got, err)
		}
	}
	if !loopnest.Same(n, loopnest.Copy(n)) || n.Body[0].Name != "i" {
		t.Error("the argument is changed")
	}
}

func TestSame(t *testing.T) {
	n := parse(t, whole)
	for k, change := range []func(n *api.Nest){
		func(n *api.Nest) { n.Bufs[0].Name = "b" }, func(n *api.Nest) { n.Bufs[0].Type.Kind = 2 }, func(n *api.Nest) { n.Bufs[2].Dims[1] = 3 }, func(n *api.Nest) { n.Bufs[0].Use = 3 }, func(n *api.Nest) { n.Bufs = n.Bufs[:3] }, func(n *api.Nest) { n.Body = n.Body[:1] }, func(n *api.Nest) { n.Body[0].Op = 4 }, func(n *api.Nest) { n.Body[0].Name = "y" }, func(n *api.Nest) { n.Body[0].Many = 3 }, func(n *api.Nest) { n.Body[1].Mark = 0 }, func(n *api.Nest) { n.Body[1].Body[0].Body[0].Fold = 1 }, func(n *api.Nest) { n.Body[1].Body[0].Body[0].Idx[0].Lin.K = 1 }, func(n *api.Nest) { n.Body[0].Body[0].Body[0].Expr.Idx[0].At[0].K = 1 }, func(n *api.Nest) { n.Body[0].Body[0].Body[0].Idx[0].From = "t" }, func(n *api.Nest) { n.Body[0].Body = nil },
	} {
		c := loopnest.Copy(n)
		if !loopnest.Same(c, n) {
			t.Fatal("a copy must be the same")
		}
		change(&c)
		if loopnest.Same(c, n) || loopnest.Same(n, c) || !loopnest.Same(n, parse(t, whole)) {
			t.Errorf("change %d is not seen, or memory is shared", k)
		}
	}
}
