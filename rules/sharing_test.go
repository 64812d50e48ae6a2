// Package rules_test holds rules for the functions of all layers: what is handed in is
// not changed, and an answer shares no memory with it or within itself.
package rules_test

import (
	"fmt"
	"reflect"
	"strings"
	"testing"

	"brocade/affine"
	"brocade/alias"
	"brocade/api"
	"brocade/arena"
	"brocade/autotune"
	"brocade/bounds"
	"brocade/buffers"
	"brocade/canon"
	"brocade/chain"
	"brocade/codegen"
	"brocade/collective"
	"brocade/constraint"
	"brocade/cse"
	"brocade/delta"
	"brocade/depend"
	"brocade/depgraph"
	"brocade/dual"
	"brocade/elim"
	"brocade/entail"
	"brocade/eval"
	"brocade/expr"
	"brocade/flatmem"
	"brocade/forward"
	"brocade/fusion"
	"brocade/inline"
	"brocade/interp"
	"brocade/isa"
	"brocade/lexer"
	"brocade/lin"
	"brocade/liveness"
	"brocade/loopnest"
	"brocade/lower"
	"brocade/mesh"
	"brocade/nesttext"
	"brocade/parser"
	"brocade/peephole"
	"brocade/pipeline"
	"brocade/program"
	"brocade/reorder"
	"brocade/reverse"
	"brocade/schedule"
	"brocade/shape"
	"brocade/shard"
	"brocade/simplify"
	"brocade/split"
	"brocade/spmd"
	"brocade/tensor"
	"brocade/trace"
	"brocade/unroll"
	"brocade/value"
	"brocade/vm"
)

// span is the memory of a list, as far as its capacity reaches.
type span struct {
	from, to uintptr
	where    string
}

// spans lists the memory of all lists that a value reaches.
func spans(v reflect.Value, where string) []span {
	var l []span
	switch v.Kind() {
	case reflect.Slice:
		if v.Cap() > 0 && v.Type().Elem().Size() > 0 {
			l = append(l, span{v.Pointer(), v.Pointer() + uintptr(v.Cap())*v.Type().Elem().Size(), where})
		}
		for i := range v.Len() {
			l = append(l, spans(v.Index(i), fmt.Sprintf("%s[%d]", where, i))...)
		}
	case reflect.Array:
		for i := range v.Len() {
			l = append(l, spans(v.Index(i), where)...)
		}
	case reflect.Struct:
		for i := range v.NumField() {
			l = append(l, spans(v.Field(i), where+"."+v.Type().Field(i).Name)...)
		}
	case reflect.Pointer, reflect.Interface:
		if !v.IsNil() {
			l = append(l, spans(v.Elem(), where)...)
		}
	}
	return l
}

func (a span) meets(b span) bool { return a.from < b.to && b.from < a.to }

// check calls a function and compares the memory of its arguments and results.
func check(t *testing.T, f any, args ...any) {
	t.Helper()
	var in []reflect.Value
	var handed []span
	for i, a := range args {
		in = append(in, reflect.ValueOf(a))
		handed = append(handed, spans(in[i], fmt.Sprintf("argument %d", i))...)
	}
	before := fmt.Sprintf("%#v", args)
	out := reflect.ValueOf(f).Call(in)
	if fmt.Sprintf("%#v", args) != before {
		t.Error("an argument has changed")
	}
	var answer []span
	for i, r := range out {
		if err, ok := r.Interface().(api.Errno); ok && err != api.OK {
			t.Errorf("error %d", err)
		}
		answer = append(answer, spans(r, fmt.Sprintf("result %d", i))...)
	}
	for i, a := range answer {
		for _, b := range append(handed, answer[:i]...) {
			if a.meets(b) {
				t.Errorf("%s shares memory with %s", a.where, b.where)
			}
		}
	}
}

func prog(t *testing.T, s string) api.Prog {
	t.Helper()
	p, at, err := parser.Prog(s)
	if err != api.OK {
		t.Fatalf("%q: %d, %v", s, at, err)
	}
	return p
}

func nest(t *testing.T, s string) api.Nest {
	t.Helper()
	n, ok := nesttext.Parse(s)
	if !ok {
		t.Fatalf("%q is no nest", s)
	}
	return n
}

func tensorOf(t api.Type, dims []int, l ...int64) api.Tensor {
	x := api.Tensor{Type: t, Dims: dims}
	for _, n := range l {
		x.Vals = append(x.Vals, api.Val{N: n, D: 1})
	}
	return x
}

var (
	kfrac = api.Type{Kind: api.KFrac}
	kint  = api.Type{Kind: api.KInt}
)

const whole = "size n; where 0 <= n - 2; in a: frac[n]; in c: frac[n]; in t: int[n]; def dead: frac[] = a[0]; def u: frac[i < n] = a[i] * frac(1) + c[i]; def v: frac[j < n] = a[j] + c[j]; def w: frac[i < n] = sum k < n: if([k] == [i], u[k] * v[k] * u[k], frac(0)); def x: frac[i < n] = scan: (w[i] + c[t[i]]) * (w[i] + c[t[i]]); def y: frac[i < n] = x[i]; def s: frac[] = sum i < n: y[i] * x[i]; out s, w, a;"

func sizes() []api.Binding { return []api.Binding{{Name: "n", Val: 2}} }

func inputs() []api.Named {
	return []api.Named{{Name: "a", Tensor: tensorOf(kfrac, []int{2}, 1, 0)}, {Name: "c", Tensor: tensorOf(kfrac, []int{2}, 0, 1)}, {Name: "t", Tensor: tensorOf(kint, []int{2}, 1, 0)}}
}

func TestPrograms(t *testing.T) {
	p := prog(t, whole)
	clean := prog(t, strings.ReplaceAll(whole, "t[i]", "0"))
	body := p.Defs[3].Body
	form := p.Defs[4].Dims[0].Size
	check(t, program.Copy, p)
	check(t, program.Find, p, "a")
	check(t, program.Find, p, "u")
	check(t, program.IndexNames, p.Defs[3])
	check(t, expr.Reads, body)
	check(t, expr.IndexNames, body)
	check(t, expr.Copy, body)
	check(t, expr.Substitute, body, "k", lin.Var("z"))
	check(t, expr.Substitute, body, "q", lin.Var("z"))
	check(t, expr.Replace, body, body.Args[0], body.Args[1])
	check(t, expr.Replace, body, body.Args[1], p.Defs[1].Body)
	check(t, expr.Replace, body, body, body)
	check(t, lin.Add, form, form)
	check(t, lin.Add, form, api.Lin{})
	check(t, lin.Add, api.Lin{}, form)
	check(t, lin.Scale, form, int64(1))
	check(t, lin.Substitute, form, "n", form)
	check(t, lin.Substitute, form, "q", form)
	check(t, bounds.Assumptions, p, 3)
	check(t, bounds.Accesses, p)
	check(t, bounds.Prove, clean, api.MaxSteps)
	check(t, eval.Dims, p, sizes(), "a")
	check(t, eval.Def, p, sizes(), inputs(), 1)
	check(t, eval.All, p, sizes(), inputs())
	check(t, eval.Run, p, sizes(), inputs())
	check(t, depgraph.Inputs, p, "w")
	check(t, depgraph.Consumers, p, "w")
	check(t, depgraph.Reachable, p, "a")
	check(t, depgraph.Levels, p)
	check(t, depgraph.RemoveDead, p)
	check(t, depgraph.TopoSort, p)
	check(t, depgraph.Between, p, "a", "s")
	check(t, simplify.Step, kfrac, p.Defs[1].Body)
	check(t, simplify.Step, kfrac, p.Defs[2].Body)
	check(t, simplify.Expr, kfrac, p.Defs[1].Body)
	check(t, simplify.Expr, kfrac, p.Defs[2].Body)
	check(t, simplify.Expr, kfrac, api.Expr{Op: 99, Args: []api.Expr{body}})
	check(t, simplify.Prog, p)
	check(t, delta.Solve, body.Args[0], "k")
	check(t, delta.Guard, body)
	check(t, delta.Def, p.Defs[3], "k")
	check(t, delta.Def, p.Defs[2], "j")
	check(t, delta.Prog, p)
	check(t, delta.Prog, clean)
	check(t, cse.Candidates, p)
	check(t, cse.Extract, p, 1)
	check(t, cse.Extract, p, 9)
	check(t, cse.Extract, p, 0)
	check(t, cse.Duplicates, p)
	check(t, cse.Merge, p)
	check(t, inline.One, p, "u")
	check(t, inline.All, p, 9)
	check(t, inline.All, p, 0)
	check(t, dual.Run, p, sizes(), inputs(), inputs()[:1])
	check(t, forward.Expr, p, p.Defs[1].Body, []string{"a", "c"})
	check(t, forward.Expr, p, p.Defs[1].Body, []string(nil))
	check(t, forward.Prog, p, []string{"a"})
	check(t, forward.Prog, p, []string(nil))
	check(t, reverse.Partials, p, 1)
	check(t, reverse.Partials, p, 3)
	check(t, reverse.Adjoint, p, 3, "u")
	check(t, reverse.Adjoint, p, 4, "w")
	check(t, reverse.Prog, p, "s", []string{"a", "c"})
	check(t, lower.Def, p, sizes(), 3)
	made := prog(t, strings.Replace(whole, "out s, w, a;", "out s, w;", 1))
	check(t, lower.Prog, made, sizes())
	check(t, canon.Normalize, p)
	check(t, pipeline.Optimize, p)
	check(t, pipeline.Optimize, prog(t, "in a: int[]; out a;"))
	kernel, _, err := pipeline.Compile(made, sizes(), nil)
	if err != api.OK {
		t.Fatal(err)
	}
	check(t, pipeline.Run, kernel, inputs(), api.MaxSteps)
	check(t, func() (pipeline.Kernel, int, api.Errno) { return pipeline.Compile(made, sizes(), nil) })
	square := prog(t, "size n; in x: frac[n]; def y: frac[i < n] = x[i] * x[i]; out y;")
	x, g := tensorOf(kfrac, []int{2}, 1, 2), tensorOf(kfrac, []int{2}, 3, 4)
	check(t, chain.Run, square, sizes(), x, 0)
	check(t, chain.Run, square, sizes(), x, 2)
	check(t, chain.Pullback, square, sizes(), x, g)
	check(t, chain.Grad, square, sizes(), x, g, 0, 0)
	check(t, chain.Grad, square, sizes(), x, g, 3, 1)
}

func TestNests(t *testing.T) {
	n := nest(t, "a: frac[4] in; d: frac[4] temp; e: frac[4] temp; z: frac[2] temp; c: frac[4] out; m: frac[2, 2] out; for i < 4 { d[i] = a[i] }; for j < 4 { e[j] = d[j] + d[j] }; for k < 4 { c[k] = e[k] }; for x < 2 { for y < 2 { if [x] < [2] { m[x, y] = a[2*x + y] } } }")
	ins := []api.Named{{Name: "a", Tensor: tensorOf(kfrac, []int{4}, 1, 2, 3, 4)}}
	mem, err := interp.InitMemory(n, ins)
	if err != api.OK {
		t.Fatal(err)
	}
	check(t, interp.InitMemory, n, ins)
	check(t, interp.Run, n, mem, api.MaxSteps)
	check(t, interp.Outputs, n, mem)
	check(t, interp.RunStmts, n, n.Body[0].Body, mem, []api.Binding{{Name: "i", Val: 1}}, 9)
	check(t, interp.RunStmts, n, []api.Stmt(nil), mem, []api.Binding(nil), 9)
	check(t, loopnest.Copy, n)
	check(t, loopnest.Loops, n)
	check(t, loopnest.Find, n, "y")
	check(t, loopnest.At, n, []int{3})
	check(t, loopnest.Replace, n, []int{3}, n.Body[0])
	check(t, loopnest.Replace, n, []int{3, 0}, n.Body[0].Body[0])
	check(t, loopnest.Buffer, n, "a")
	check(t, loopnest.Enclosing, n, []int{3, 0, 0})
	check(t, loopnest.Rename, n.Body, "i", "l")
	check(t, loopnest.Substitute, n.Body[0].Body, "i", lin.Var("q"))
	check(t, trace.Concrete, n.Body[0].Body[0], []api.Binding{{Name: "i", Val: 1}})
	check(t, trace.Statements, n)
	check(t, trace.Instances, n)
	check(t, trace.Writes, n, n.Body[0].Body[0])
	check(t, trace.Reads, n, n.Body[1].Body[0])
	list, _ := trace.Instances(n)
	check(t, depend.Pairs, n, list)
	check(t, depend.Analyze, n)
	check(t, depend.Carried, nest(t, "c: frac[4] out; for i < 3 { c[i + 1] = c[i] }"), "i")
	check(t, split.Split, n, "i", 2, "i_a", "i_b")
	check(t, split.Collapse, nest(t, "m: frac[4] out; for x < 2 { for y < 2 { m[2*x + y] = frac(1) } }"), "x", "xy")
	check(t, split.Peel, n, "i", 2, "p")
	check(t, split.RemoveGuards, n)
	check(t, reorder.Interchange, nest(t, "m: frac[2, 2] out; for x < 2 { for y < 2 { m[x, y] = frac(1) } }"), "x")
	check(t, reorder.Permute, nest(t, "m: frac[2, 2] out; for x < 2 { for y < 2 { m[x, y] = frac(1) } }"), []string{"y", "x"})
	check(t, reorder.Reverse, n, "i")
	check(t, reorder.Skew, nest(t, "m: frac[2, 2] out; for x < 2 { for y < 2 { m[x, y] = frac(1) } }"), "x", 1, "q")
	check(t, fusion.Fuse, n, "i")
	check(t, fusion.Distribute, nest(t, "a: frac[4] in; c: frac[4] out; d: frac[4] out; for i < 4 { c[i] = a[i]; d[i] = a[i] }"), "i", 1)
	check(t, fusion.ComputeAt, n, "i", "j")
	check(t, unroll.Unroll, n, "i")
	check(t, unroll.Annotate, n, "i", api.MPar)
	check(t, unroll.RunPermuted, n, mem, "i", []int{3, 1, 0, 2}, api.MaxSteps)
	check(t, buffers.Inline, n, "d")
	check(t, buffers.CacheRead, nest(t, "a: frac[4] in; c: frac[4] out; for o < 2 { for i < 4 { c[i] = a[i] } }"), "o", "a", "q")
	check(t, buffers.RemoveUnused, n)
	check(t, buffers.RemoveUnused, nest(t, "c: frac[4] out; for i < 4 { c[i] = frac(1) }"))
	lives, _ := liveness.Analyze(n)
	check(t, liveness.Analyze, n)
	slots, words, _ := arena.Plan(lives)
	check(t, arena.Plan, lives)
	check(t, alias.Candidates, n)
	check(t, alias.Apply, n, "e", "d")
	step := api.Step{Op: api.TSplit, Loop: "i", By: 2, Names: []string{"i_a", "i_b"}}
	check(t, schedule.Apply, n, step)
	check(t, schedule.ApplyAll, n, []api.Step{step})
	check(t, schedule.ApplyAll, n, []api.Step(nil))
	check(t, autotune.Candidates, n)
	check(t, autotune.Search, n, 0, 1)
	check(t, autotune.Search, n, 2, 2)
	check(t, canon.NestKey, n)
	check(t, flatmem.Run, n, slots, words, ins, api.MaxSteps)
	check(t, flatmem.PlanAndRun, n, ins, api.MaxSteps)
	check(t, codegen.Types, n)
	check(t, codegen.Compile, n)
	unit, _ := codegen.Compile(n)
	check(t, vm.Execute, n, unit, ins, api.MaxSteps)
	check(t, vm.New, unit)
	check(t, isa.Targets, unit.Code)
	check(t, isa.Relocate, unit.Code, 1)
	check(t, peephole.Unreachable, append([]api.Instr{{Op: api.IHalt}}, unit.Code...))
	check(t, peephole.Step, unit)
	check(t, peephole.Optimize, unit)
	best, _ := peephole.Optimize(unit)
	check(t, peephole.Step, best)
	check(t, peephole.Optimize, best)
}

func TestLists(t *testing.T) {
	x, y := tensorOf(kint, []int{2, 2}, 1, 2, 3, 4), tensorOf(kint, []int{2, 2}, 5, 6, 7, 8)
	check(t, tensor.New, kint, []int{2}, x.Vals[0], x.Vals[1])
	check(t, tensor.Full, kint, []int{2, 2}, x.Vals[0])
	check(t, tensor.Set, x, y.Vals[0], 1, 1)
	check(t, tensor.Zip, x, y, func(a, b api.Val) (api.Val, api.Errno) { return value.Apply(api.EAdd, kint, a, b) })
	for _, fold := range []int{api.FSum, api.FScan} {
		check(t, tensor.Reduce, x, 0, fold)
	}
	check(t, tensor.Permute, x, []int{0, 1})
	check(t, tensor.Permute, x, []int{1, 0})
	check(t, tensor.Slice, x, 0, 0, 2)
	check(t, tensor.Concat, 0, x)
	check(t, tensor.Concat, 1, x, y)
	check(t, shape.Strides, []int{2, 3})
	check(t, shape.Point, []int{2, 3}, 4)
	check(t, shape.Broadcast, []int{2, 3}, []int{2, 3})
	check(t, shape.Broadcast, []int{2, 3}, []int{3})
	check(t, shape.Permute, []int{2, 3}, []int{0, 1})
	check(t, shape.Slice, []int{2, 3}, 0, 0, 2)
	m := api.Mesh{Dims: []int{2}}
	l := []api.Tensor{x, y}
	check(t, mesh.Coordinates, m, 1)
	check(t, mesh.Group, m, 0, 1)
	check(t, mesh.Groups, m, 0)
	check(t, collective.AllGather, m, l, 0, 0)
	check(t, collective.SliceLocal, m, l, 0, 0)
	check(t, collective.AllReduce, m, l, 0, api.FSum)
	check(t, collective.ReduceScatter, m, l, 0, 0, api.FSum)
	check(t, collective.AllToAll, m, l, 0, 0, 1)
	for _, from := range []api.Spec{{-1, -1}, {0, -1}} {
		for _, to := range []api.Spec{{-1, -1}, {0, -1}, {-1, 0}} {
			check(t, collective.Plan, from, to)
			check(t, collective.Reshard, m, l, from, to)
		}
	}
	for _, s := range []api.Spec{{-1, -1}, {0, -1}, {-1, 0}} {
		check(t, shard.LocalShape, m, []int{2, 2}, s)
		check(t, shard.Origin, m, []int{2, 2}, s, 1)
		check(t, shard.Scatter, m, x, s)
		local, _ := shard.Scatter(m, x, s)
		check(t, shard.Gather, m, []int{2, 2}, s, local)
	}
	p := prog(t, whole)
	for _, specs := range [][]api.Spec{{{0}, {0}, {-1}}, {{-1}, {-1}, {-1}}} {
		check(t, spmd.Infer, m, p, sizes(), specs)
		check(t, spmd.Run, m, p, sizes(), specs, inputs())
	}
	i, j := api.Constraint{Lin: lin.Var("i")}, api.Constraint{Lin: api.Lin{K: 3, L: []api.Mono{{Name: "i", By: -1}}}}
	never := api.Constraint{Lin: api.Lin{K: -4, L: []api.Mono{{Name: "i", By: 1}}}}
	both := []api.Constraint{i, j}
	check(t, constraint.Tighten, i)
	check(t, constraint.Negate, i)
	check(t, constraint.Negate, api.Constraint{Lin: lin.Var("i"), Eq: true})
	check(t, constraint.Combine, both, []int64{1, 0})
	check(t, constraint.Normalize, both)
	check(t, elim.Combine, i, j, "i")
	check(t, elim.Eliminate, both, "i")
	check(t, elim.Eliminate, both, "q")
	check(t, elim.Infeasible, append(both, never), 99)
	check(t, entail.Implies, both, i, 99)
	forms, names := []api.Lin{lin.Var("i"), lin.Var("j")}, []string{"i", "j"}
	check(t, affine.Apply, forms, names, []int{1, 2})
	check(t, affine.Compose, forms, names, forms)
	check(t, affine.FirstPreimage, forms, names, []int{2, 2}, []int64{1, 1})
	check(t, affine.FirstCollision, forms, forms, names, []int{2, 2})
	check(t, affine.Image, forms, names, []int{2, 2})
	tokens, _, _ := lexer.Tokenize("a[i + 1] + c[2]")
	check(t, parser.Lin, tokens, 2)
	check(t, parser.ExprAt, tokens, 0)
}
