package rules_test

import (
	"reflect"
	"testing"

	"brocade/alias"
	"brocade/api"
	"brocade/autotune"
	"brocade/bounds"
	"brocade/buffers"
	"brocade/canon"
	"brocade/chain"
	"brocade/codegen"
	"brocade/cse"
	"brocade/depend"
	"brocade/dual"
	"brocade/eval"
	"brocade/flatmem"
	"brocade/forward"
	"brocade/fusion"
	"brocade/inline"
	"brocade/interp"
	"brocade/legality"
	"brocade/liveness"
	"brocade/lower"
	"brocade/pipeline"
	"brocade/program"
	"brocade/reorder"
	"brocade/reverse"
	"brocade/schedule"
	"brocade/split"
	"brocade/spmd"
	"brocade/trace"
	"brocade/unroll"
	"brocade/vm"
)

// refuse calls a function and expects an error beside zero values.
func refuse(t *testing.T, want api.Errno, f any, args ...any) {
	t.Helper()
	var in []reflect.Value
	for _, a := range args {
		in = append(in, reflect.ValueOf(a))
	}
	out := reflect.ValueOf(f).Call(in)
	last := len(out) - 1
	if got := out[last].Interface().(api.Errno); got != want {
		t.Errorf("error %d, not %d", got, want)
	}
	for i, r := range out[:last] {
		empty := r.Kind() == reflect.Slice && r.Len() == 0
		if !r.IsZero() && !empty {
			t.Errorf("result %d is %v", i, r)
		}
	}
}

// TestInvalidPrograms calls functions with a program whose only fault is its output.
func TestInvalidPrograms(t *testing.T) {
	p := prog(t, whole)
	p.Outs = append(p.Outs, "q")
	none := api.ErrNotFound
	place, _ := program.Validate(p)
	for i, f := range []func() (int, api.Errno){
		func() (int, api.Errno) {
			l, at, err := bounds.Prove(p, 99)
			return at + len(l), err
		},
		func() (int, api.Errno) { return bounds.CheckProofs(p, nil) },
		func() (int, api.Errno) { return bounds.CheckSizes(p, sizes()) },
		func() (int, api.Errno) { return dual.Differentiable(p) },
	} {
		if at, err := f(); at != place || at == 0 || err != none {
			t.Errorf("function %d: %d, %d", i, at, err)
		}
	}
	refuse(t, none, eval.Dims, p, sizes(), "a")
	refuse(t, none, eval.Def, p, sizes(), inputs(), 1)
	refuse(t, none, eval.All, p, sizes(), inputs())
	refuse(t, none, eval.Run, p, sizes(), inputs())
	refuse(t, none, inline.Check, p, "u")
	refuse(t, none, inline.One, p, "u")
	refuse(t, none, dual.Run, p, sizes(), inputs(), inputs()[:1])
	refuse(t, none, forward.Prog, p, []string{"a"})
	refuse(t, none, reverse.Partials, p, 1)
	refuse(t, none, reverse.Adjoint, p, 3, "u")
	refuse(t, none, reverse.Prog, p, "s", []string{"a"})
	refuse(t, none, lower.Def, p, sizes(), 1)
	refuse(t, none, lower.Prog, p, sizes())
	refuse(t, none, canon.Normalize, p)
	refuse(t, none, canon.ProgramKey, p, sizes())
	refuse(t, none, pipeline.Optimize, p)
	refuse(t, none, spmd.Infer, api.Mesh{Dims: []int{2}}, p, sizes(), []api.Spec{{0}, {0}, {0}})
	refuse(t, none, spmd.Run, api.Mesh{Dims: []int{2}}, p, sizes(), []api.Spec{{0}, {0}, {0}}, inputs())
	square := prog(t, "size n; in x: frac[n]; def y: frac[i < n] = x[i] * x[i]; out y;")
	square.Sizes = append(square.Sizes, "n")
	x := tensorOf(kfrac, []int{2}, 1, 2)
	refuse(t, api.ErrDuplicate, chain.Validate, square)
	refuse(t, api.ErrDuplicate, chain.Run, square, sizes(), x, 1)
	refuse(t, api.ErrDuplicate, chain.Pullback, square, sizes(), x, x)
	refuse(t, api.ErrDuplicate, chain.Grad, square, sizes(), x, x, 1, 1)
	if len(cse.Candidates(p)) != 0 || len(cse.Duplicates(p)) != 0 || len(bounds.Accesses(p)) != 0 || len(bounds.Assumptions(p, 3)) != 0 {
		t.Error("an invalid program has answers")
	}
	for i, f := range []func(api.Prog, int) (api.Prog, int){cse.Extract, inline.All, func(p api.Prog, _ int) (api.Prog, int) { return cse.Merge(p) }} {
		if r, many := f(p, 9); many != 0 || !program.Same(r, p) {
			t.Errorf("function %d changes an invalid program", i)
		}
	}
}

// TestInvalidNests calls functions with a nest whose only fault is its last statement.
func TestInvalidNests(t *testing.T) {
	n := nest(t, "a: frac[4] in; d: frac[4] temp; e: frac[4] temp; c: frac[4] out; for i < 4 { d[i] = a[i] }; for j < 4 { e[j] = d[j] + d[j] }; for k < 4 { for l < 2 { c[k] = e[k] } }; c[q] = a[0]")
	good := n
	good.Body = n.Body[:3]
	ins := []api.Named{{Name: "a", Tensor: tensorOf(kfrac, []int{4}, 1, 2, 3, 4)}}
	mem, err := interp.InitMemory(good, ins)
	if err != api.OK {
		t.Fatal(err)
	}
	none := api.ErrNotFound
	refuse(t, none, interp.InitMemory, n, ins)
	refuse(t, none, interp.Run, n, mem, 99)
	refuse(t, none, interp.RunStmts, n, n.Body[3:], mem, []api.Binding(nil), 99)
	refuse(t, none, trace.Instances, n)
	refuse(t, none, depend.Analyze, n)
	refuse(t, none, depend.Carried, n, "i")
	refuse(t, none, depend.Independent, n, "i")
	refuse(t, none, legality.Check, n, n)
	refuse(t, none, legality.Check, good, n)
	refuse(t, none, split.Split, n, "i", 2, "o", "p")
	refuse(t, none, split.Collapse, n, "k", "o")
	refuse(t, none, split.Peel, n, "i", 2, "o")
	refuse(t, none, reorder.Interchange, n, "k")
	refuse(t, none, reorder.Permute, n, []string{"l", "k"})
	refuse(t, none, reorder.Reverse, n, "i")
	refuse(t, none, reorder.Skew, n, "k", 1, "o")
	refuse(t, none, fusion.Fuse, n, "i")
	refuse(t, none, fusion.Distribute, n, "i", 1)
	refuse(t, none, fusion.ComputeAt, n, "i", "j")
	refuse(t, none, unroll.Unroll, n, "i")
	refuse(t, none, unroll.CheckAnnotation, n, "i", api.MPar)
	refuse(t, none, unroll.Annotate, n, "i", api.MPar)
	refuse(t, none, unroll.RunPermuted, n, mem, "i", []int{0, 1, 2, 3}, 99)
	refuse(t, none, buffers.Inline, n, "d")
	refuse(t, none, buffers.CacheRead, n, "i", "a", "o")
	refuse(t, none, liveness.Analyze, n)
	refuse(t, none, alias.Check, n, "e", "d")
	refuse(t, none, alias.Apply, n, "e", "d")
	refuse(t, none, schedule.Apply, n, api.Step{Op: api.TUnroll, Loop: "i"})
	refuse(t, none, autotune.Cost, n)
	refuse(t, none, autotune.Search, n, 1, 1)
	refuse(t, none, canon.NestKey, n)
	refuse(t, none, flatmem.PlanAndRun, n, ins, 99)
	refuse(t, none, codegen.Compile, n)
	unit, _ := codegen.Compile(good)
	refuse(t, none, vm.Execute, n, unit, ins, 99)
	if len(alias.Candidates(n)) != 0 || len(autotune.Candidates(n)) != 0 {
		t.Error("an invalid nest has candidates")
	}
}
