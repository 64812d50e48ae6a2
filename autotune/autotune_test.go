package autotune_test

import (
	"math"
	"slices"
	"strings"
	"testing"

	"brocade/api"
	"brocade/autotune"
	"brocade/loopnest"
	"brocade/nesttext"
	"brocade/schedule"
)

func parse(t *testing.T, s string) api.Nest {
	t.Helper()
	n, ok := nesttext.Parse(s)
	if !ok {
		t.Fatalf("%q is no nest", s)
	}
	return n
}

const bufs = "a: frac[3] in; s: frac[] out; "

func TestCost(t *testing.T) {
	for _, x := range []struct {
		s    string
		want api.Cost
		err  api.Errno
	}{
		{bufs + "for i < 3 { s[] sum= a[i] * a[i] }", api.Cost{Loops: 3, Reads: 9, Writes: 3, Ops: 6, Words: 1}, 0}, {bufs, api.Cost{Words: 1}, 0}, {bufs + "for i < 3 { s[] sum= a[i] }; for j < 2 { s[] sum= a[j] }", api.Cost{Loops: 5, Reads: 10, Writes: 5, Ops: 5, Words: 1}, 0}, {bufs + "s[] = frac(1)", api.Cost{Writes: 1, Words: 1}, 0}, {"a: frac[3] in; t: int[2] temp; c: frac[2, 2] out; for i < 2 parallel { for j < 5 vector { if !(a[0] < a[t[0]]) & [i] <= [1] | int(1) == t[1] { c[t[i], t[1]] = if(a[0] < a[1], -a[0], cast(frac, [i])); c[0, t[0]] max= min(a[t[0]], a[1]) } } }", api.Cost{Loops: 12, Reads: 10 * (3 + 1 + 2 + 3 + 5), Writes: 20, Ops: 10 * (3 + 3 + 2), Words: 6}, 0}, {bufs + "s[] = q[]", api.Cost{}, api.ErrNotFound},
		{bufs + strings.Repeat("for X < 65536 { ", 9) + "s[] sum= a[0]" + strings.Repeat(" }", 9), api.Cost{Loops: 1 << 40, Reads: 1 << 40, Writes: 1 << 40, Ops: 1 << 40, Words: 1}, 0}, {bufs + strings.Repeat("for X < 32 { ", 8) + "s[] = a[0]" + strings.Repeat(" }", 8), api.Cost{Loops: 1 << 40, Reads: 1 << 40, Writes: 1 << 40, Words: 1}, 0}, {bufs + strings.Repeat("for X < 16 { ", 9) + "s[] = a[0]" + strings.Repeat(" }", 9), api.Cost{Loops: 73300775184, Reads: 1 << 36, Writes: 1 << 36, Words: 1}, 0},
	} {
		for _, v := range "bcdefghij" {
			x.s = strings.Replace(x.s, "X", string(v), 1)
		}
		n := parse(t, x.s)
		got, err := autotune.Cost(n)
		if got != x.want || err != x.err {
			t.Errorf("Cost(%.60q) = %v, %v; want %v", x.s, got, err, x.want)
		}
		for i := range n.Body {
			n.Body[i].Mark = api.MNone
		}
		if plain, _ := autotune.Cost(n); plain != got {
			t.Error("marks cost nothing")
		}
	}
}

func TestLess(t *testing.T) {
	c := func(loops, reads, writes, ops, words int) api.Cost {
		return api.Cost{Loops: loops, Reads: reads, Writes: writes, Ops: ops, Words: words}
	}
	for _, x := range []struct {
		a, b api.Cost
		want bool
	}{{c(3, 0, 0, 0, 9), c(0, 0, 0, 1, 0), true}, {c(2, 0, 0, 0, 0), c(0, 1, 0, 0, 0), false}, {c(2, 0, 0, 0, 0), c(0, 1, 0, 0, 1), true}, {c(0, 1, 0, 0, 0), c(0, 0, 1, 0, 0), false}, {c(0, 1, 0, 0, 0), c(0, 0, 1, 0, 1), true}, {c(0, 0, 1, 0, 0), c(0, 1, 0, 0, 1), true}, {c(0, 0, 2, 0, 0), c(0, 0, 0, 1, 0), false}, {c(4, 0, 0, 0, 0), c(0, 0, 0, 1, 0), false}, {c(4, 0, 0, 0, 0), c(0, 0, 0, 1, 1), true}, {c(1, 0, 0, 0, 0), c(0, 1, 0, 0, 0), true}, {c(2, 0, 0, 0, 0), c(0, 0, 1, 0, 1), true}, {c(0, 3, 0, 0, 0), c(0, 1, 1, 1, 0), true}, {c(0, 0, 0, 0, 5), c(0, 0, 0, 0, 5), false}, {c(math.MaxInt, 0, 0, 0, 0), c(1<<40, 0, 0, 0, 0), false}, {c(1<<40, 0, 0, 0, 0), c(math.MaxInt, 0, 0, 0, 0), false}, {c(math.MinInt, math.MinInt, math.MinInt, math.MinInt, 0), c(0, 0, 0, 0, 0), true}, {c(0, 0, 0, 0, math.MinInt), c(0, 0, 0, 0, -1<<40), false}, {c(0, 0, 0, 0, -1<<40), c(0, 0, 0, 0, -1<<40+1), true}} {
		if got := autotune.Less(x.a, x.b); got != x.want || got && autotune.Less(x.b, x.a) {
			t.Errorf("Less(%v, %v) = %v", x.a, x.b, got)
		}
	}
}

const whole = "a: frac[4] in; d: frac[4] temp; e: frac[4] temp; c: frac[4] out; m: frac[2, 2] out; for i < 4 { d[i] = a[i] }; for j < 4 { e[j] = d[j] + d[j] }; for k < 4 { c[k] = e[k] }; for x < 2 { for y < 2 { m[x, y] = a[y] } }"

func TestCandidates(t *testing.T) {
	for _, s := range []string{whole, bufs + "for i < 3 { s[] sum= a[i] * a[i] }", "a: frac[4] in; c: frac[4, 2] out; for x < 4 { for y < 2 { c[x, y] = a[x] } }; for x_a < 2 { }", bufs + "for abcdefghijklmnop < 3 { s[] sum= a[0] }", bufs} {
		n := parse(t, s)
		var want []api.Step
		add := func(op int, name string, by int, names ...string) {
			x := api.Step{Op: op, Loop: name, By: by, Names: names}
			if _, err := schedule.Apply(n, x); err == api.OK {
				want = append(want, x)
			}
		}
		for _, l := range loopnest.Loops(n) {
			a, b := loopnest.FreshName(n, l+"_a"), loopnest.FreshName(n, l+"_b")
			add(api.TFuse, l, 0)
			add(api.TUnroll, l, 0)
			add(api.TCollapse, l, 0, a)
			add(api.TInterchange, l, 0)
			add(api.TSplit, l, 2, a, b)
		}
		for _, l := range [][]string{{"d"}, {"e"}, {"d", "e"}, {"e", "d"}} {
			if len(l) == 1 {
				add(api.TInline, l[0], 0)
			} else {
				add(api.TAlias, l[0], 0, l[1])
			}
		}
		if got := schedule.Format(autotune.Candidates(n)); got != schedule.Format(want) || len(want) == 0 && s != bufs {
			t.Errorf("Candidates(%.50q) = %s; want %s", s, got, schedule.Format(want))
		}
	}
	if autotune.Candidates(parse(t, bufs+"s[] = q[]")) != nil {
		t.Error("an invalid nest")
	}
}

func TestSearch(t *testing.T) {
	n := parse(t, bufs+"for i < 3 { s[] sum= a[i] * a[i] }")
	steps, m, err := autotune.Search(n, 1, 1)
	if schedule.Format(steps) != "unroll i\n" || err != api.OK {
		t.Error(steps, err)
	}
	if c, _ := autotune.Cost(m); c != (api.Cost{Reads: 9, Writes: 3, Ops: 6, Words: 1}) {
		t.Error(c)
	}
	for _, x := range []struct {
		n            api.Nest
		depth, width int
		err          api.Errno
	}{{parse(t, bufs+"s[] = q[]"), 9, 0, api.ErrNotFound}, {n, -1, 1, api.ErrArg}, {n, 9, 1, api.ErrArg}, {n, 1, 0, api.ErrArg}, {n, 1, 9, api.ErrArg}} {
		if l, m, err := autotune.Search(x.n, x.depth, x.width); err != x.err || len(l) != 0 || !loopnest.Same(m, api.Nest{}) {
			t.Errorf("Search(%d, %d) = %v, %v", x.depth, x.width, l, err)
		}
	}
	if l, m, err := autotune.Search(n, 0, 8); len(l) != 0 || !loopnest.Same(m, n) || err != api.OK {
		t.Error(l, err)
	}
	if l, _, err := autotune.Search(n, 8, 8); schedule.Format(l) != "unroll i\n" || err != api.OK {
		t.Error(l, err)
	}
}

// TestSearchByDefinition follows P45.4 step by step.
func TestSearchByDefinition(t *testing.T) {
	type item struct {
		steps []api.Step
		nest  api.Nest
	}
	cost := func(n api.Nest) api.Cost {
		c, _ := autotune.Cost(n)
		return c
	}
	n := parse(t, whole)
	for depth := range 4 {
		for _, width := range []int{1, 2} {
			best := item{nest: n}
			beam := []item{best}
			for range depth {
				var next []item
				for _, e := range beam {
					for _, s := range autotune.Candidates(e.nest) {
						m, _ := schedule.Apply(e.nest, s)
						next = append(next, item{append(slices.Clone(e.steps), s), m})
					}
				}
				// Insertion keeps the order of equals.
				for i := 1; i < len(next); i++ {
					for k := i; k > 0 && autotune.Less(cost(next[k].nest), cost(next[k-1].nest)); k-- {
						next[k], next[k-1] = next[k-1], next[k]
					}
				}
				beam = next[:min(width, len(next))]
				if len(beam) > 0 && autotune.Less(cost(beam[0].nest), cost(best.nest)) {
					best = beam[0]
				}
			}
			steps, m, err := autotune.Search(n, depth, width)
			if err != api.OK || schedule.Format(steps) != schedule.Format(best.steps) || !loopnest.Same(m, best.nest) {
				t.Errorf("Search(%d, %d) = %s; want %s", depth, width, schedule.Format(steps), schedule.Format(best.steps))
			}
			again, _, err := schedule.ApplyAll(n, steps)
			if err != api.OK || !loopnest.Same(again, m) || autotune.Less(cost(n), cost(m)) {
				t.Errorf("Search(%d, %d): %v", depth, width, err)
			}
		}
	}
}
