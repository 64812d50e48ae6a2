package engine

import (
	"brocade/api"
	"brocade/deep"
	"brocade/value"
)

// Run executes valid statements on a copy of a memory that must provide all buffers. The
// function order, if it is not nil, gives the values that a loop takes.
func Run(bufs []api.Buffer, l []api.Stmt, mem []api.Named, env []api.Binding, fuel int, order func(loop api.Stmt) []int) ([]api.Named, int, api.Errno) {
	if fuel < 0 || fuel > api.MaxSteps {
		return nil, 0, api.ErrArg
	}
	given := New(mem, nil)
	s := New(nil, env)
	var final []api.Named
	for _, b := range bufs {
		if err := given.Provided(b.Name, b.Type, b.Dims); err != api.OK {
			return nil, 0, err
		}
		t, _ := given.Tensor(b.Name)
		own := deep.Named(api.Named{Name: b.Name, Tensor: t})
		s.Define(b.Name, own.Tensor)
		final = append(final, own)
	}
	x := Exec{Scope: s, Fuel: fuel, Order: order}
	if err := x.Stmts(l); err != api.OK {
		return nil, 0, err
	}
	return final, x.Steps, api.OK
}

// Exec executes the statements of a valid nest in a scope whose tensors it changes.
type Exec struct {
	Scope *Scope
	// Fuel is the number of steps that are allowed, Steps that of those taken.
	Fuel, Steps int
	// Order, if it is not nil, gives the values that a loop takes.
	Order func(loop api.Stmt) []int
}

// Stmts executes statements in order.
func (x *Exec) Stmts(l []api.Stmt) api.Errno {
	for i := range l {
		if err := x.stmt(&l[i]); err != api.OK {
			return err
		}
	}
	return api.OK
}

// step counts a step, if there is fuel for it.
func (x *Exec) step() api.Errno {
	if x.Steps >= x.Fuel {
		return api.ErrFuel
	}
	x.Steps++
	return api.OK
}

func (x *Exec) stmt(s *api.Stmt) api.Errno {
	if s.Op == api.SFor {
		return x.loop(s)
	}
	if err := x.step(); err != api.OK {
		return err
	}
	if s.Op == api.SIf {
		holds, err := x.Scope.Condition(s.Expr)
		if err != api.OK || !holds {
			return err
		}
		return x.Stmts(s.Body)
	}
	return x.store(s)
}

func (x *Exec) loop(s *api.Stmt) api.Errno {
	var order []int
	if x.Order != nil {
		order = x.Order(*s)
	}
	outer := x.Scope.Env
	at := len(outer)
	x.Scope.Env = append(outer[:at:at], api.Binding{Name: s.Name})
	inner := x.Scope.Env
	err := api.OK
iterations:
	for v := range s.Many {
		if err = x.step(); err != api.OK {
			break
		}
		inner[at].Val = int64(v)
		if order != nil {
			inner[at].Val = int64(order[v])
		}
		for i := range s.Body {
			x.Scope.Env = inner
			if err = x.stmt(&s.Body[i]); err != api.OK {
				break iterations
			}
		}
	}
	x.Scope.Env = outer
	return err
}

func (x *Exec) store(s *api.Stmt) api.Errno {
	v, _, err := x.Scope.Expr(s.Expr)
	if err != api.OK {
		return err
	}
	t, err := x.Scope.Tensor(s.Name)
	if err != api.OK {
		return err
	}
	at, err := x.Scope.Element(t, s.Idx)
	if err != api.OK {
		return err
	}
	if s.Op == api.SFold {
		if v, err = value.Reduce(s.Fold, t.Type, t.Vals[at], v); err != api.OK {
			return err
		}
	}
	t.Vals[at] = v
	return api.OK
}
