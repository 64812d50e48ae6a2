package bounds

import (
	"slices"

	"brocade/api"
	"brocade/box"
	"brocade/constraint"
	"brocade/engine"
	"brocade/lin"
	"brocade/program"
)

// CheckSizes checks all obligations for concrete sizes.
func CheckSizes(p api.Prog, sizes []api.Binding) (int, api.Errno) {
	if at, err := program.Validate(p); err != api.OK {
		return at, err
	}
	if err := engine.CheckSizes(p, sizes); err != api.OK {
		return 0, err
	}
	for i, o := range obligations(p) {
		if err := o.check(p.Defs[o.access.Def], sizes); err != api.OK {
			return i, err
		}
	}
	return 0, api.OK
}

// check evaluates an obligation at all points of its definition.
func (o obligation) check(d api.Def, sizes []api.Binding) api.Errno {
	var names []string
	var ext []int
	for _, a := range axes(d) {
		n, err := lin.Eval(a.Size, sizes)
		if err != api.OK {
			return err
		}
		if n < 1 || n > api.MaxSize {
			return api.ErrSize
		}
		names, ext = append(names, a.Name), append(ext, int(n))
	}
	if err := box.Validate(ext); err != api.OK {
		return err
	}
	if o.evident(names, ext, sizes) {
		return api.OK
	}
	env := make([]api.Binding, len(names))
	for i, n := range names {
		env[i].Name = n
	}
	env = append(env, sizes...)
	for p := range box.All(ext) {
		for i, x := range p {
			env[i].Val = int64(x)
		}
		if err := o.checkAt(env); err != api.OK {
			return err
		}
	}
	return api.OK
}

// evident reports whether the bounds of all forms over the whole box are enough: no
// evaluation can fail, and the obligation holds everywhere.
func (o obligation) evident(names []string, ext []int, sizes []api.Binding) bool {
	low, err := bound(o.access.Constraint.Lin, names, ext, sizes)
	if err != api.OK || low < 0 {
		return false
	}
	return !slices.ContainsFunc(o.facts, func(c api.Constraint) bool {
		_, err := bound(c.Lin, names, ext, sizes)
		return err != api.OK
	})
}

// bound returns the least value of a form over a box for given sizes.
func bound(f api.Lin, names []string, ext []int, sizes []api.Binding) (int64, api.Errno) {
	for _, b := range sizes {
		next, err := lin.Substitute(f, b.Name, lin.Const(b.Val))
		if err != api.OK {
			return 0, err
		}
		f = next
	}
	low, _, err := box.Range(f, names, ext)
	return low, err
}

// checkAt evaluates an obligation at one point.
func (o obligation) checkAt(env []api.Binding) api.Errno {
	for _, c := range o.facts {
		holds, err := constraint.Holds(c, env)
		if err != api.OK || !holds {
			return err
		}
	}
	holds, err := constraint.Holds(o.access.Constraint, env)
	if err == api.OK && !holds {
		return api.ErrBounds
	}
	return err
}
