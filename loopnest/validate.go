package loopnest

import (
	"slices"

	"brocade/api"
	"brocade/expr"
	"brocade/lexer"
	"brocade/shape"
	"brocade/value"
)

// checker knows the buffers, the loops seen so far and the loops around a statement.
type checker struct {
	buffers map[string]api.Buffer
	seen    map[string]bool
	around  map[string]bool
}

// Validate checks a nest and returns the path of the first invalid statement.
func Validate(n api.Nest) ([]int, api.Errno) {
	if tooDeep(n.Body, api.MaxDepth) {
		return nil, api.ErrDepth
	}
	if Size(n) > api.MaxNodes || len(n.Bufs) > 2*api.MaxDefs {
		return nil, api.ErrLimit
	}
	c := &checker{map[string]api.Buffer{}, map[string]bool{}, map[string]bool{}}
	for _, b := range n.Bufs {
		if err := c.buffer(b); err != api.OK {
			return nil, err
		}
	}
	return c.list(n.Body)
}

func tooDeep(l []api.Stmt, limit int) bool {
	if limit == 0 {
		return len(l) > 0
	}
	return slices.ContainsFunc(l, func(s api.Stmt) bool { return tooDeep(s.Body, limit-1) })
}

func (c *checker) buffer(b api.Buffer) api.Errno {
	if !lexer.IsName(b.Name) {
		return api.ErrName
	}
	if _, known := c.buffers[b.Name]; known {
		return api.ErrDuplicate
	}
	if err := value.ValidateType(b.Type); err != api.OK {
		return err
	}
	if err := shape.Validate(b.Dims); err != api.OK {
		return err
	}
	if b.Use < api.BInput || b.Use > api.BTemp {
		return api.ErrArg
	}
	c.buffers[b.Name] = b
	return api.OK
}

// list checks statements and returns the path from the list on.
func (c *checker) list(l []api.Stmt) ([]int, api.Errno) {
	for i := range len(l) {
		if err := c.stmt(l[i]); err != api.OK {
			return []int{i}, err
		}
		loop := l[i].Op == api.SFor
		if loop {
			c.around[l[i].Name] = true
		}
		way, err := c.list(l[i].Body)
		if err != api.OK {
			return append([]int{i}, way...), err
		}
		if loop {
			delete(c.around, l[i].Name)
		}
	}
	return nil, api.OK
}

// stmt checks a statement without its body.
func (c *checker) stmt(s api.Stmt) api.Errno {
	if !onlyUsed(s) {
		return api.ErrSyntax
	}
	switch s.Op {
	case api.SFor:
		return c.loop(s)
	case api.SIf:
		if _, err := c.expr(s.Expr); err != api.OK {
			return err
		}
		if !expr.IsCondition(s.Expr) {
			return api.ErrType
		}
		return api.OK
	}
	return c.store(s)
}

// onlyUsed reports whether the fields that the statement does not use are zero.
func onlyUsed(s api.Stmt) bool {
	loop, branch := s.Op == api.SFor, s.Op == api.SIf
	store := s.Op == api.SSet || s.Op == api.SFold
	switch {
	case !loop && !branch && !store,
		branch && s.Name != "",
		!loop && (s.Many != 0 || s.Mark != 0),
		s.Op != api.SFold && s.Fold != 0,
		!store && len(s.Idx) > 0,
		store && len(s.Body) > 0,
		loop && !expr.Same(s.Expr, api.Expr{}):
		return false
	}
	return true
}

func (c *checker) loop(s api.Stmt) api.Errno {
	if !lexer.IsName(s.Name) {
		return api.ErrName
	}
	if _, known := c.buffers[s.Name]; known || c.seen[s.Name] {
		return api.ErrDuplicate
	}
	if s.Many < 1 || s.Many > api.MaxPoints || s.Mark < api.MNone || s.Mark > api.MUnroll {
		return api.ErrArg
	}
	c.seen[s.Name] = true
	return api.OK
}

func (c *checker) store(s api.Stmt) api.Errno {
	if _, err := c.expr(api.Expr{Op: api.ERead, Name: s.Name, Idx: s.Idx}); err != api.OK {
		return err
	}
	b := c.buffers[s.Name]
	if b.Use == api.BInput || s.Op == api.SFold && (s.Fold < api.FSum || s.Fold > api.FMax) {
		return api.ErrArg
	}
	t, err := c.expr(s.Expr)
	if err != api.OK {
		return err
	}
	if expr.IsCondition(s.Expr) || t != b.Type {
		return api.ErrType
	}
	return api.OK
}

// expr checks an expression and returns its type.
func (c *checker) expr(e api.Expr) (api.Type, api.Errno) {
	if err := expr.Validate(e); err != api.OK {
		return api.Type{}, err
	}
	if err := c.names(e); err != api.OK {
		return api.Type{}, err
	}
	return c.typeOf(e)
}

// names checks the names and ranks of all nodes in preorder.
func (c *checker) names(e api.Expr) api.Errno {
	node := api.Expr{Lin: e.Lin, Idx: e.Idx}
	err := exprForms(&node, func(f *api.Lin) api.Errno {
		if slices.ContainsFunc(f.L, func(m api.Mono) bool { return !c.around[m.Name] }) {
			return api.ErrNotFound
		}
		return api.OK
	})
	if err != api.OK {
		return err
	}
	if e.Op == api.ERead {
		if err := c.read(e); err != api.OK {
			return err
		}
	}
	for i := range len(e.Args) {
		if err := c.names(e.Args[i]); err != api.OK {
			return err
		}
	}
	return api.OK
}

func (c *checker) read(e api.Expr) api.Errno {
	b, known := c.buffers[e.Name]
	if !known {
		return api.ErrNotFound
	}
	if len(e.Idx) != len(b.Dims) {
		return api.ErrRank
	}
	for _, x := range e.Idx {
		if x.From == "" {
			continue
		}
		from, known := c.buffers[x.From]
		switch {
		case !known:
			return api.ErrNotFound
		case from.Type.Kind != api.KInt:
			return api.ErrType
		case len(x.At) != len(from.Dims):
			return api.ErrRank
		}
	}
	return api.OK
}

// typeOf returns the type of a node, after its operands. A condition has none.
func (c *checker) typeOf(e api.Expr) (api.Type, api.Errno) {
	var types []api.Type
	for i := range len(e.Args) {
		t, err := c.typeOf(e.Args[i])
		if err != api.OK {
			return api.Type{}, err
		}
		types = append(types, t)
	}
	switch e.Op {
	case api.EVal, api.ECast:
		return e.Type, api.OK
	case api.EIdx:
		return api.Type{Kind: api.KInt}, api.OK
	case api.ERead:
		return c.buffers[e.Name].Type, api.OK
	case api.CAnd, api.COr, api.CNot:
		return api.Type{}, api.OK
	}
	last := len(types) - 1
	// For EIf the condition comes first; the last two operands are the values.
	if last > 0 && types[last-1] != types[last] {
		return api.Type{}, api.ErrType
	}
	if expr.IsCondition(e) {
		return api.Type{}, api.OK
	}
	return types[last], api.OK
}
