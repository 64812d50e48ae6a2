package engine

import (
	"slices"

	"brocade/api"
	"brocade/box"
	"brocade/constraint"
	"brocade/expr"
	"brocade/lin"
	"brocade/program"
	"brocade/shape"
)

// CheckSizes checks the values of the sizes of a program.
func CheckSizes(p api.Prog, sizes []api.Binding) api.Errno {
	if len(sizes) != len(p.Sizes) {
		return api.ErrSize
	}
	for _, n := range p.Sizes {
		at := slices.IndexFunc(sizes, func(b api.Binding) bool { return b.Name == n })
		if at < 0 || sizes[at].Val < 1 || sizes[at].Val > api.MaxSize {
			return api.ErrSize
		}
	}
	for _, c := range p.Where {
		holds, err := constraint.Holds(c, sizes)
		if err != api.OK {
			return err
		}
		if !holds {
			return api.ErrConstraint
		}
	}
	return api.OK
}

// Extents evaluates the sizes of axes.
func Extents(forms []api.Lin, sizes []api.Binding) ([]int, api.Errno) {
	l := make([]int, len(forms))
	for i, f := range forms {
		n, err := lin.Eval(f, sizes)
		if err != api.OK {
			return nil, err
		}
		if n < 1 || n > api.MaxSize {
			return nil, api.ErrSize
		}
		l[i] = int(n)
	}
	return l, api.OK
}

// RedExtents evaluates the sizes of the reduction axes of a definition.
func RedExtents(d api.Def, sizes []api.Binding) ([]int, api.Errno) {
	var forms []api.Lin
	for _, a := range d.Red {
		forms = append(forms, a.Size)
	}
	return Extents(forms, sizes)
}

// Dims returns the extents of a tensor of a valid program for checked sizes.
func Dims(p api.Prog, sizes []api.Binding, name string) ([]int, api.Errno) {
	_, forms, known := program.Find(p, name)
	if !known {
		return nil, api.ErrNotFound
	}
	l, err := Extents(forms, sizes)
	if err != api.OK {
		return nil, err
	}
	if shape.Validate(l) != api.OK {
		return nil, api.ErrSize
	}
	return l, api.OK
}

// Provided returns the error if the scope does not provide a tensor.
func (s *Scope) Provided(name string, t api.Type, dims []int) api.Errno {
	x, err := s.Tensor(name)
	switch {
	case err != api.OK:
		return err
	case x.Type != t:
		return api.ErrType
	case !shape.Same(x.Dims, dims):
		return api.ErrSize
	}
	return api.OK
}

// Prepare checks what a definition needs before its first point is evaluated, and
// returns the extents of Dims and Red.
func (s *Scope) Prepare(p api.Prog, sizes []api.Binding, def int) ([]int, []int, api.Errno) {
	d := p.Defs[def]
	out, err := Dims(p, sizes, d.Name)
	if err != api.OK {
		return nil, nil, err
	}
	red, err := RedExtents(d, sizes)
	if err != api.OK {
		return nil, nil, err
	}
	if many := box.Count(red); many == 0 || many > api.MaxPoints/box.Count(out) {
		return nil, nil, api.ErrLimit
	}
	for _, name := range expr.Reads(d.Body) {
		t, _, _ := program.Find(p, name)
		dims, err := Dims(p, sizes, name)
		if err != api.OK {
			return nil, nil, err
		}
		if err := s.Provided(name, t, dims); err != api.OK {
			return nil, nil, err
		}
	}
	return out, red, api.OK
}

// Loader returns a function that binds the index names of a definition to a point of
// Dims and a point of Red.
func (s *Scope) Loader(d api.Def, sizes []api.Binding) func(at, red []int) {
	var env []api.Binding
	for _, n := range program.IndexNames(d) {
		env = append(env, api.Binding{Name: n})
	}
	many := len(d.Dims)
	env = append(env, sizes...)
	return func(at, red []int) {
		for i, x := range at {
			env[i].Val = int64(x)
		}
		for i, x := range red {
			env[many+i].Val = int64(x)
		}
		s.Env = env
	}
}

// Elements evaluates a definition at all points in order, where body gives the number
// at a point of Dims and a point of Red, and combine folds two of them.
func Elements[T any](d api.Def, out, red []int, body func(at, red []int) (T, api.Errno), combine func(fold int, a, b T) (T, api.Errno)) ([]T, api.Errno) {
	var l []T
	for p := range box.All(out) {
		var total T
		first := true
		for q := range box.All(red) {
			v, err := body(p, q)
			if err == api.OK && !first {
				v, err = combine(d.Fold, total, v)
			}
			if err != api.OK {
				return nil, err
			}
			total, first = v, false
		}
		if d.Fold == api.FScan && p[len(p)-1] > 0 {
			sum, err := combine(api.FSum, l[len(l)-1], total)
			if err != api.OK {
				return nil, err
			}
			total = sum
		}
		l = append(l, total)
	}
	return l, api.OK
}
