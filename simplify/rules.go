package simplify

import (
	"brocade/api"
	"brocade/expr"
	"brocade/lin"
	"brocade/value"
)

// site is a node to which a rule may apply, with its known type.
type site struct {
	e api.Expr
	k kind
}

// rewrite applies the first rule that fits and returns its name, or nothing.
func rewrite(e api.Expr, k kind) (api.Expr, string) {
	rules := []struct {
		name  string
		apply func(site) (api.Expr, bool)
	}{
		{"fold", site.fold}, {"cast", site.cast}, {"index", site.index}, {"if", site.choose}, {"same", site.same}, {"zero", site.zero},
		{"one", site.one}, {"cancel", site.cancel}, {"negate", site.negate}, {"not", site.not}, {"logic", site.logic},
	}
	for _, r := range rules {
		if next, applies := r.apply(site{e, k}); applies {
			return next, r.name
		}
	}
	return api.Expr{}, ""
}

func constant(t api.Type, v api.Val) api.Expr { return api.Expr{Op: api.EVal, Type: t, Val: v} }

func node(op int, args ...api.Expr) api.Expr { return api.Expr{Op: op, Args: args} }

func (s site) fold() (api.Expr, bool) {
	switch s.e.Op {
	case api.EAdd, api.ESub, api.EMul, api.EDiv, api.ENeg, api.EMin, api.EMax:
	default:
		return api.Expr{}, false
	}
	a, b := s.e.Args[0], s.e.Args[len(s.e.Args)-1]
	if a.Op != api.EVal || b.Op != api.EVal || a.Type != b.Type {
		return api.Expr{}, false
	}
	v, err := value.Apply(s.e.Op, a.Type, a.Val, b.Val)
	return constant(a.Type, v), err == api.OK
}

func (s site) cast() (api.Expr, bool) {
	if s.e.Op != api.ECast {
		return api.Expr{}, false
	}
	a := s.e.Args[0]
	if a.Op == api.EVal {
		v, err := value.Cast(a.Type, s.e.Type, a.Val)
		return constant(s.e.Type, v), err == api.OK
	}
	return a, derived(a) == kind{s.e.Type, true}
}

// integerForm returns the form of an EIdx or of an integer constant.
func integerForm(e api.Expr) (api.Lin, bool) {
	if e.Op == api.EVal {
		return lin.Const(e.Val.N), e.Type.Kind == api.KInt
	}
	return e.Lin, e.Op == api.EIdx
}

// minus returns f - g.
func minus(f, g api.Lin) (api.Lin, api.Errno) {
	opposite, err := lin.Scale(g, -1)
	if err != api.OK {
		return api.Lin{}, err
	}
	return lin.Add(f, opposite)
}

func (s site) index() (api.Expr, bool) {
	f, err := api.Lin{}, api.ErrArg
	switch s.e.Op {
	case api.EIdx:
		k := s.e.Lin.K
		number := len(s.e.Lin.L) == 0 && k >= -api.MaxNum && k <= api.MaxNum
		return constant(api.Type{Kind: api.KInt}, api.Val{N: k, D: 1}), number
	case api.EAdd, api.ESub:
		a, ok := integerForm(s.e.Args[0])
		b, ok2 := integerForm(s.e.Args[1])
		if !ok || !ok2 || s.e.Args[0].Op != api.EIdx && s.e.Args[1].Op != api.EIdx {
			return api.Expr{}, false
		}
		if s.e.Op == api.EAdd {
			f, err = lin.Add(a, b)
		} else {
			f, err = minus(a, b)
		}
	case api.EMul:
		a, b := s.e.Args[0], s.e.Args[1]
		if b.Op == api.EIdx {
			a, b = b, a
		}
		if a.Op != api.EIdx || b.Op != api.EVal || b.Type.Kind != api.KInt {
			return api.Expr{}, false
		}
		f, err = lin.Scale(a.Lin, b.Val.N)
	case api.ENeg:
		if s.e.Args[0].Op != api.EIdx {
			return api.Expr{}, false
		}
		f, err = lin.Scale(s.e.Args[0].Lin, -1)
	}
	return api.Expr{Op: api.EIdx, Lin: f}, err == api.OK
}

func (s site) choose() (api.Expr, bool) {
	if s.e.Op != api.EIf {
		return api.Expr{}, false
	}
	holds, known := decided(s.e.Args[0])
	if holds {
		return s.e.Args[1], known
	}
	return s.e.Args[2], known
}

func (s site) same() (api.Expr, bool) {
	switch s.e.Op {
	case api.EIf:
		return s.e.Args[1], expr.Same(s.e.Args[1], s.e.Args[2])
	case api.EMin, api.EMax, api.CAnd, api.COr:
		return s.e.Args[0], expr.Same(s.e.Args[0], s.e.Args[1])
	}
	return api.Expr{}, false
}

func isZero(e api.Expr) bool { return e.Op == api.EVal && e.Val == value.Zero(e.Type) }

func isOne(e api.Expr) bool {
	if e.Op != api.EVal {
		return false
	}
	one, err := value.One(e.Type)
	return err == api.OK && e.Val == one
}

func (s site) zero() (api.Expr, bool) {
	if len(s.e.Args) != 2 {
		return api.Expr{}, false
	}
	x, y := s.e.Args[0], s.e.Args[1]
	left, right := isZero(x), isZero(y)
	switch {
	case right && (s.e.Op == api.EAdd || s.e.Op == api.ESub):
		return x, true
	case left && s.e.Op == api.EAdd:
		return y, true
	case left && s.e.Op == api.ESub:
		return node(api.ENeg, y), true
	case right && s.e.Op == api.EMul:
		return y, true
	case left && (s.e.Op == api.EMul || s.e.Op == api.EDiv):
		return x, true
	}
	return api.Expr{}, false
}

func (s site) one() (api.Expr, bool) {
	if s.e.Op != api.EMul && s.e.Op != api.EDiv {
		return api.Expr{}, false
	}
	x, y := s.e.Args[0], s.e.Args[1]
	if isOne(y) {
		return x, true
	}
	return y, s.e.Op == api.EMul && isOne(x)
}

func (s site) cancel() (api.Expr, bool) {
	if !s.k.known || s.e.Op != api.ESub && s.e.Op != api.EDiv || !expr.Same(s.e.Args[0], s.e.Args[1]) {
		return api.Expr{}, false
	}
	if s.e.Op == api.ESub {
		return constant(s.k.t, value.Zero(s.k.t)), true
	}
	one, err := value.One(s.k.t)
	return constant(s.k.t, one), s.k.t.Kind != api.KFix && err == api.OK
}

func (s site) negate() (api.Expr, bool) {
	if !s.k.known || s.k.t.Kind == api.KFix && s.k.t.Over != api.OWrap {
		return api.Expr{}, false
	}
	is := func(at, op int) bool { return s.e.Args[at].Op == op }
	inner := func(at int) api.Expr { return s.e.Args[at].Args[0] }
	switch {
	case s.e.Op == api.ENeg && is(0, api.ENeg):
		return s.e.Args[0].Args[0], true
	case s.e.Op == api.EAdd && is(1, api.ENeg):
		return node(api.ESub, s.e.Args[0], inner(1)), true
	case s.e.Op == api.EAdd && is(0, api.ENeg):
		return node(api.ESub, s.e.Args[1], inner(0)), true
	case s.e.Op == api.ESub && is(1, api.ENeg):
		return node(api.EAdd, s.e.Args[0], inner(1)), true
	}
	return api.Expr{}, false
}

func (s site) not() (api.Expr, bool) {
	if s.e.Op == api.EIf && s.e.Args[0].Op == api.CNot {
		return node(api.EIf, s.e.Args[0].Args[0], s.e.Args[2], s.e.Args[1]), true
	}
	if s.e.Op != api.CNot {
		return api.Expr{}, false
	}
	c := s.e.Args[0]
	switch c.Op {
	case api.CNot:
		return c.Args[0], true
	case api.CLt:
		return node(api.CLe, c.Args[1], c.Args[0]), true
	case api.CLe:
		return node(api.CLt, c.Args[1], c.Args[0]), true
	}
	return api.Expr{}, false
}

func (s site) logic() (api.Expr, bool) {
	if s.e.Op != api.CAnd && s.e.Op != api.COr {
		return api.Expr{}, false
	}
	// What CAnd does not need is an operand that holds; COr needs none that fails.
	idle := s.e.Op == api.CAnd
	for i, c := range s.e.Args {
		if holds, known := decided(c); known && holds == idle {
			return s.e.Args[1-i], true
		}
	}
	return api.Expr{}, false
}

// decided tells whether a condition holds, if that can be seen.
func decided(c api.Expr) (bool, bool) {
	switch c.Op {
	case api.CNot:
		holds, known := decided(c.Args[0])
		return !holds, known
	case api.CAnd, api.COr:
		a, known := decided(c.Args[0])
		b, known2 := decided(c.Args[1])
		// One operand is enough if it fails in CAnd, or holds in COr.
		enough := c.Op == api.COr
		if known && a == enough || known2 && b == enough {
			return enough, true
		}
		return !enough, known && known2
	}
	return compared(c)
}

func compared(c api.Expr) (bool, bool) {
	a, b := c.Args[0], c.Args[1]
	if a.Op == api.EVal && b.Op == api.EVal && a.Type == b.Type {
		return ordered(c.Op, value.Compare(a.Type, a.Val, b.Val)), true
	}
	f, ok := integerForm(a)
	g, ok2 := integerForm(b)
	if ok && ok2 {
		if d, err := minus(f, g); err == api.OK && len(d.L) == 0 {
			return ordered(c.Op, int(min(max(d.K, -1), 1))), true
		}
	}
	return c.Op != api.CLt, expr.Same(a, b)
}

func ordered(op, order int) bool {
	return order < 0 && op != api.CEq || order == 0 && op != api.CLt
}
