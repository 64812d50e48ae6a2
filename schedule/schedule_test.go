package schedule_test

import (
	"slices"
	"strings"
	"testing"

	"brocade/alias"
	"brocade/api"
	"brocade/buffers"
	"brocade/fusion"
	"brocade/interp"
	"brocade/loopnest"
	"brocade/nesttext"
	"brocade/reorder"
	"brocade/schedule"
	"brocade/split"
	"brocade/tensor"
	"brocade/unroll"
)

func parse(t *testing.T, s string) api.Nest {
	t.Helper()
	n, ok := nesttext.Parse(s)
	if !ok {
		t.Fatalf("%q is no nest", s)
	}
	return n
}

func step(op int, loop string, by int, names ...string) api.Step {
	return api.Step{Op: op, Loop: loop, By: by, Names: names}
}

// steps has one of each kind, with its text.
var steps = []struct {
	s    api.Step
	text string
	keep bool
}{
	{step(api.TSplit, "i", 2, "o", "k"), "split i 2 o k", true}, {step(api.TCollapse, "x", 0, "z"), "collapse x z", true}, {step(api.TInterchange, "x", 0), "interchange x", false}, {step(api.TReverse, "i", 0), "reverse i", false}, {step(api.TSkew, "x", 3, "z"), "skew x 3 z", true}, {step(api.TFuse, "i", 0), "fuse i", false}, {step(api.TDistribute, "i", 1), "distribute i 1", false}, {step(api.TUnroll, "i", 0), "unroll i", true}, {step(api.TAnnotate, "i", 1), "annotate i 1", true}, {step(api.TInline, "d", 0), "inline d", false}, {step(api.TCacheRead, "i", 0, "a", "z"), "cache_read i a z", true}, {step(api.TComputeAt, "i", 0, "j"), "compute_at i j", false}, {step(api.TAlias, "e", 0, "d"), "alias e d", false},
}

const whole = "a: frac[4] in; d: frac[4] temp; e: frac[4] temp; c: frac[4] out; m: frac[2, 4] out; for i < 4 { d[i] = a[i]; m[0, i] = a[i] }; for j < 4 { e[j] = d[j] }; for k < 4 { c[k] = e[k] }; for x < 2 { for y < 4 { m[x, y] sum= a[y] } }"

func TestValidate(t *testing.T) {
	for _, x := range steps {
		if err := schedule.Validate(x.s); err != api.OK || schedule.PreservesOrder(x.s) != x.keep {
			t.Errorf("%v: %v, %v", x.s, err, schedule.PreservesOrder(x.s))
		}
		uses := strings.ContainsAny(x.text, "0123456789")
		for k, change := range []func(s *api.Step) api.Errno{
			func(s *api.Step) api.Errno { s.Names = append(slices.Clone(s.Names), "q"); return api.ErrSchedule },
			func(s *api.Step) api.Errno {
				s.Names = append(slices.Clone(s.Names), "")
				s.Loop = ""
				return api.ErrSchedule
			},
			func(s *api.Step) api.Errno { s.Loop = "I"; return api.ErrName },
			func(s *api.Step) api.Errno {
				if len(s.Names) == 0 {
					return api.OK
				}
				s.Names = slices.Clone(s.Names)
				s.Names[len(s.Names)-1] = "sum"
				return api.ErrName
			},
			func(s *api.Step) api.Errno {
				s.By = -7
				if uses {
					return api.OK
				}
				return api.ErrSchedule
			},
			func(s *api.Step) api.Errno { s.Op = 14; return api.ErrSchedule },
		} {
			s := x.s
			want := change(&s)
			if err := schedule.Validate(s); err != want {
				t.Errorf("%v, change %d: %v; want %v", x.s, k, err, want)
			}
			if n, err := schedule.Apply(parse(t, whole), s); want != api.OK && (err != want || !loopnest.Same(n, api.Nest{}) || schedule.Format([]api.Step{x.s, s}) != "") {
				t.Errorf("%v, change %d: Apply = %v", x.s, k, err)
			}
		}
	}
	for _, op := range []int{0, -1, 14} {
		if schedule.Validate(step(op, "i", 0)) != api.ErrSchedule || schedule.PreservesOrder(step(op, "i", 0)) {
			t.Errorf("kind %d", op)
		}
	}
}

func TestApply(t *testing.T) {
	n := parse(t, whole)
	type result struct {
		n   api.Nest
		err api.Errno
	}
	of := func(n api.Nest, err api.Errno) result { return result{n, err} }
	want := []result{
		of(split.Split(n, "i", 2, "o", "k")), of(split.Collapse(n, "x", "z")), of(reorder.Interchange(n, "x")), of(reorder.Reverse(n, "i")), of(reorder.Skew(n, "x", 3, "z")), of(fusion.Fuse(n, "i")), of(fusion.Distribute(n, "i", 1)), of(unroll.Unroll(n, "i")), of(unroll.Annotate(n, "i", 1)), of(buffers.Inline(n, "d")), of(buffers.CacheRead(n, "i", "a", "z")), of(fusion.ComputeAt(n, "i", "j")), of(alias.Apply(n, "e", "d")),
	}
	fine := 0
	for i, x := range steps {
		got, err := schedule.Apply(n, x.s)
		if err != want[i].err || !loopnest.Same(got, want[i].n) {
			t.Errorf("Apply(%v) = %v", x.s, err)
		}
		if err == api.OK {
			fine++
		}
	}
	if fine < 9 {
		t.Errorf("only %d steps apply", fine)
	}
}

func TestApplyAll(t *testing.T) {
	n := parse(t, whole)
	l := []api.Step{step(api.TSplit, "k", 2, "ko", "ki"), step(api.TInterchange, "x", 0), step(api.TFuse, "i", 0), step(api.TAlias, "e", 0, "d"), step(api.TUnroll, "ki", 0)}
	got, many, err := schedule.ApplyAll(n, l)
	if many != 5 || err != api.OK || len(got.Bufs) != 4 {
		t.Fatal(many, err)
	}
	want := n
	for _, s := range l {
		want, _ = schedule.Apply(want, s)
	}
	if !loopnest.Same(got, want) {
		t.Error(loopnest.Format(got))
	}
	x := api.Named{Name: "a", Tensor: api.Tensor{Type: api.Type{Kind: api.KFrac}, Dims: []int{4}, Vals: []api.Val{{N: 1, D: 2}, {N: 3, D: 1}, {N: -1, D: 1}, {N: 5, D: 1}}}}
	run := func(n api.Nest) []api.Named {
		mem, _ := interp.InitMemory(n, []api.Named{x})
		r, _, err := interp.Run(n, mem, api.MaxSteps)
		if err != api.OK {
			t.Fatal(err)
		}
		return interp.Outputs(n, r)
	}
	if !slices.EqualFunc(run(n), run(got), func(a, b api.Named) bool { return a.Name == b.Name && tensor.Same(a.Tensor, b.Tensor) }) {
		t.Error("the outputs differ")
	}
	for _, x := range []struct {
		n   api.Nest
		l   []api.Step
		at  int
		err api.Errno
	}{{parse(t, "c[q] = a[0]"), make([]api.Step, 65), 0, api.ErrNotFound}, {n, make([]api.Step, 65), 0, api.ErrLimit}, {n, make([]api.Step, 64), 0, api.ErrSchedule}, {n, []api.Step{l[0], l[0]}, 1, api.ErrLoop}, {n, []api.Step{l[0], step(api.TReverse, "k", 0)}, 1, api.ErrLoop}, {parse(t, "c: frac[4] out; for i < 3 { c[i + 1] = c[i] }"), []api.Step{step(api.TSplit, "i", 3, "o", "k"), step(api.TReverse, "k", 0)}, 1, api.ErrDependence}} {
		if got, at, err := schedule.ApplyAll(x.n, x.l); at != x.at || err != x.err || !loopnest.Same(got, api.Nest{}) {
			t.Errorf("ApplyAll = %d, %v; want %d, %v", at, err, x.at, x.err)
		}
	}
	if got, many, err := schedule.ApplyAll(n, nil); !loopnest.Same(got, n) || many != 0 || err != api.OK {
		t.Error(many, err)
	}
}

func TestText(t *testing.T) {
	var all []api.Step
	var text string
	for _, x := range steps {
		all, text = append(all, x.s), text+x.text+"\n"
	}
	same := func(a, b api.Step) bool {
		return a.Op == b.Op && a.Loop == b.Loop && a.By == b.By && slices.Equal(a.Names, b.Names)
	}
	if got := schedule.Format(all); got != text {
		t.Errorf("%q", got)
	}
	if got, many, err := schedule.Parse(text); !slices.EqualFunc(got, all, same) || many != 13 || err != api.OK {
		t.Error(got, many, err)
	}
	for _, x := range []struct {
		s    string
		at   int
		err  api.Errno
		many int
	}{
		{"", 0, 0, 0}, {strings.Repeat("x", api.MaxText), 0, api.ErrEOF, 0}, {strings.Repeat("x", api.MaxText+1), 0, api.ErrLimit, 0}, {"split i -5 o k\n", 1, 0, 1}, {"split i 0 o k\nunroll i\n", 2, 0, 2}, {"annotate i 2147483647\nannotate i -2147483647\n", 2, 0, 2}, {strings.Repeat("unroll i\n", 64), 64, 0, 64}, {strings.Repeat("unroll i\n", 65), 64, api.ErrLimit, 0}, {strings.Repeat("unroll i\n", 64) + "x", 64, api.ErrLimit, 0}, {strings.Repeat("x", 65537), 0, api.ErrLimit, 0},
		{"unroll i", 0, api.ErrEOF, 0}, {"unroll i\nx", 1, api.ErrEOF, 0}, {"split i io ii\n", 0, api.ErrSyntax, 0}, {"\n", 0, api.ErrSyntax, 0}, {"unroll i\n\n", 1, api.ErrSyntax, 0}, {" unroll i\n", 0, api.ErrSyntax, 0}, {"unroll i \n", 0, api.ErrSyntax, 0}, {"unroll\n", 0, api.ErrSyntax, 0}, {"Unroll i\n", 0, api.ErrSyntax, 0}, {"fuse i j\n", 0, api.ErrSyntax, 0}, {"unroll\ti\n", 0, api.ErrSyntax, 0}, {"unroll  i\n", 0, api.ErrSyntax, 0},
		{"split i 4 o\n", 0, api.ErrSyntax, 0}, {"split i -0 o k\n", 0, api.ErrSyntax, 0}, {"split i 04 o k\n", 0, api.ErrSyntax, 0}, {"split i +4 o k\n", 0, api.ErrSyntax, 0}, {"split i - o k\n", 0, api.ErrSyntax, 0}, {"split i 4x O k\n", 0, api.ErrSyntax, 0}, {"split i  o k\n", 0, api.ErrSyntax, 0}, {"annotate i 2147483648\n", 0, api.ErrRange, 0}, {"annotate i -2147483648\n", 0, api.ErrRange, 0}, {"annotate I 99999999999999999999\n", 0, api.ErrRange, 0}, {"unroll I\n", 0, api.ErrName, 0}, {"split i 4  k\n", 0, api.ErrName, 0}, {"fuse i\nalias i sum\n", 1, api.ErrName, 0},
	} {
		got, at, err := schedule.Parse(x.s)
		if at != x.at || err != x.err || len(got) != x.many || err == api.OK && schedule.Format(got) != x.s {
			t.Errorf("Parse(%.40q) = %v, %d, %v; want %d, %v", x.s, got, at, err, x.at, x.err)
		}
	}
	if schedule.Format(nil) != "" {
		t.Error("no steps")
	}
}
