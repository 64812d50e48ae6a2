package reverse

import (
	"slices"
	"strconv"

	"brocade/api"
	"brocade/deep"
	"brocade/depgraph"
	"brocade/expr"
	"brocade/lin"
	"brocade/program"
)

// Prog returns the program that computes the gradient of an output.
func Prog(p api.Prog, out string, of []string) (api.Prog, api.Errno) {
	if _, err := program.Validate(p); err != api.OK {
		return api.Prog{}, err
	}
	if err := checkNames(p, out, of); err != api.OK {
		return api.Prog{}, err
	}
	active := activeDefs(p, out, of)
	for _, i := range active {
		if !differentiable(p, p.Defs[i], of, active) {
			return api.Prog{}, api.ErrGradient
		}
	}
	r := program.Copy(p)
	_, dims, _ := program.Find(p, out)
	r.Params = append(r.Params, api.Param{Name: AdjointName(out), Type: kfrac(), Dims: dims})
	var targets []string
	for _, i := range slices.Backward(active) {
		if p.Defs[i].Name != out {
			targets = append(targets, p.Defs[i].Name)
		}
	}
	for _, x := range slices.Concat(targets, of) {
		if err := adjoin(p, &r, active, x); err != api.OK {
			return api.Prog{}, err
		}
	}
	r.Outs = nil
	for _, x := range of {
		r.Outs = append(r.Outs, AdjointName(x))
	}
	if _, err := program.Validate(r); err != api.OK {
		return api.Prog{}, err
	}
	return r, api.OK
}

func checkNames(p api.Prog, out string, of []string) api.Errno {
	kinds := map[string]int{}
	for _, x := range p.Params {
		kinds[x.Name] = x.Type.Kind
	}
	at := program.IndexOf(p, out)
	if at < 0 || slices.ContainsFunc(of, func(x string) bool { return kinds[x] == 0 }) {
		return api.ErrNotFound
	}
	for i, x := range of {
		if slices.Contains(of[:i], x) {
			return api.ErrDuplicate
		}
	}
	if p.Defs[at].Type.Kind != api.KFrac || slices.ContainsFunc(of, func(x string) bool { return kinds[x] != api.KFrac }) {
		return api.ErrGradient
	}
	return api.OK
}

// activeDefs returns the numbers of the definitions between of and out.
func activeDefs(p api.Prog, out string, of []string) []int {
	needed := depgraph.Reachable(p, out)
	var l []int
	for i, d := range p.Defs {
		reach := depgraph.Reachable(p, d.Name)
		depends := slices.ContainsFunc(of, func(x string) bool { return slices.Contains(reach, x) })
		if depends && slices.Contains(needed, d.Name) {
			l = append(l, i)
		}
	}
	return l
}

func differentiable(p api.Prog, d api.Def, of []string, active []int) bool {
	if d.Type.Kind != api.KFrac || d.Fold == api.FProd || d.Fold == api.FMin || d.Fold == api.FMax {
		return false
	}
	names := slices.Clone(of)
	for _, i := range active {
		names = append(names, p.Defs[i].Name)
	}
	return keeps(p, d, d.Body, names)
}

// keeps reports whether no conversion on the value path hides one of the names.
func keeps(p api.Prog, d api.Def, e api.Expr, names []string) bool {
	args := e.Args
	switch e.Op {
	case api.EIf:
		args = e.Args[1:]
	case api.ECast:
		if !isFrac(p, d, e.Args[0]) {
			return !slices.ContainsFunc(expr.Reads(e.Args[0]), func(n string) bool { return slices.Contains(names, n) })
		}
	}
	return !slices.ContainsFunc(args, func(a api.Expr) bool { return !keeps(p, d, a, names) })
}

// adjoin appends the adjoint of a tensor to the result.
func adjoin(p api.Prog, r *api.Prog, active []int, x string) api.Errno {
	var parts []api.Def
	for _, i := range active {
		d, some, err := Adjoint(p, i, x)
		if err != api.OK {
			return err
		}
		if some {
			parts = append(parts, d)
		}
	}
	if len(parts) == 1 {
		r.Defs = append(r.Defs, parts[0])
		return api.OK
	}
	_, dims, _ := program.Find(p, x)
	sum := api.Def{Name: AdjointName(x), Type: kfrac(), Dims: axesFor(p, dims), Body: number(0)}
	var idx []api.Index
	for _, a := range sum.Dims {
		idx = append(idx, api.Index{Lin: lin.Var(a.Name)})
	}
	for i, d := range parts {
		d.Name = "h" + strconv.Itoa(len(r.Defs))
		r.Defs = append(r.Defs, d)
		read := api.Expr{Op: api.ERead, Name: d.Name, Idx: deep.Indices(idx)}
		if i == 0 {
			sum.Body = read
		} else {
			sum.Body = node(api.EAdd, sum.Body, read)
		}
	}
	r.Defs = append(r.Defs, sum)
	return api.OK
}
