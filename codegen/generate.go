package codegen

import (
	"slices"

	"brocade/api"
)

// The temporary registers. An index and the number 1 share a register.
const (
	address   = 100
	one       = 101
	index     = 101
	last      = 102
	product   = 103
	gathered  = 104
	position  = 105
	condition = 120
	element   = 254
	checked   = 255
)

// generator writes code into its instruction buffer.
type generator struct {
	buffer
	types  []api.Type
	places map[string]place
	// depth gives the register of each loop variable.
	depth map[string]int
}

// clear sets all cells of a buffer to zero.
func (g *generator) clear(p place) {
	g.emit(api.Instr{Op: api.IConst, A: 0, Val: num(0)})
	g.load(address, p.base)
	back := g.here()
	g.cell(api.IStore, 0, address, p.base, p.end)
	g.next(address, p.end, back)
}

// form leaves the value of a linear form in a register.
func (g *generator) form(f api.Lin, x int) {
	g.load(x, int(f.K))
	for _, m := range f.L {
		g.emit(api.Instr{Op: api.IMul, A: product, B: g.depth[m.Name], C: int(m.By)})
		g.addTo(x, product)
	}
}

func (g *generator) scale(x, by int) { g.emit(api.Instr{Op: api.IMul, A: x, B: x, C: by}) }

// address leaves the number of the cell of an element in the register for addresses.
func (g *generator) address(name string, idx []api.Index) place {
	p := g.places[name]
	g.load(address, p.base)
	for i, x := range idx {
		if x.From == "" {
			g.form(x.Lin, index)
			if len(idx) > 1 {
				g.cell(api.ILoad, checked, index, 0, p.buffer.Dims[i])
			}
		} else {
			g.gather(x)
			g.emit(api.Instr{Op: api.IToInt, A: index, B: element, C: p.buffer.Dims[i]})
		}
		g.scale(index, p.strides[i])
		g.addTo(address, index)
	}
	return p
}

// gather loads the element that an index names.
func (g *generator) gather(x api.Index) {
	f := g.places[x.From]
	g.load(gathered, f.base)
	for j, form := range x.At {
		g.form(form, position)
		if len(x.At) > 1 {
			g.cell(api.ILoad, checked, position, 0, f.buffer.Dims[j])
		}
		g.scale(position, f.strides[j])
		g.addTo(gathered, position)
	}
	g.cell(api.ILoad, element, gathered, f.base, f.end)
}

// typeOf returns the type of a value.
func (g *generator) typeOf(e api.Expr) api.Type {
	switch e.Op {
	case api.EVal, api.ECast:
		return e.Type
	case api.EIdx:
		return api.Type{Kind: api.KInt}
	case api.ERead:
		return g.places[e.Name].buffer.Type
	}
	return g.typeOf(e.Args[len(e.Args)-1])
}

// value leaves the value of an expression in R[k], and conditions from X[b] on.
func (g *generator) value(e api.Expr, k, b int) {
	switch e.Op {
	case api.EVal:
		g.emit(api.Instr{Op: api.IConst, A: k, Val: e.Val})
	case api.EIdx:
		g.form(e.Lin, index)
		g.emit(api.Instr{Op: api.IFromInt, A: k, B: index})
	case api.ERead:
		p := g.address(e.Name, e.Idx)
		g.cell(api.ILoad, k, address, p.base, p.end)
	case api.ENeg:
		g.value(e.Args[0], k, b)
		g.emit(api.Instr{Op: api.IOp, A: k, B: k, Val: num(api.ENeg), Type: g.typeOf(e.Args[0])})
	case api.ECast:
		g.value(e.Args[0], k, b)
		from := slices.Index(g.types, g.typeOf(e.Args[0]))
		g.emit(api.Instr{Op: api.ICast, A: k, B: k, Val: num(from), Type: e.Type})
	case api.EIf:
		g.test(e.Args[0], k, b)
		other := g.unless(b)
		g.value(e.Args[1], k, b)
		end := g.emit(api.Instr{Op: api.IJump})
		g.land(other)
		g.value(e.Args[2], k, b)
		g.land(end)
	default:
		g.value(e.Args[0], k, b)
		g.value(e.Args[1], k+1, b)
		g.emit(api.Instr{Op: api.IOp, A: k, B: k, C: k + 1, Val: num(e.Op), Type: g.typeOf(e.Args[0])})
	}
}

// unless jumps, to a place that is not known yet, if X[b] is 0.
func (g *generator) unless(b int) int {
	g.load(b+1, 1)
	return g.emit(api.Instr{Op: api.IJLt, B: b, C: b + 1})
}

// test leaves 1 in X[b] if a condition holds, and 0 otherwise.
func (g *generator) test(c api.Expr, k, b int) {
	switch c.Op {
	case api.CAnd, api.COr:
		g.test(c.Args[0], k, b)
		g.test(c.Args[1], k, b+1)
		op := api.IMin
		if c.Op == api.COr {
			op = api.IMax
		}
		g.emit(api.Instr{Op: op, A: b, B: b, C: b + 1})
	case api.CNot:
		g.test(c.Args[0], k, b)
		g.scale(b, -1)
		g.load(b+1, 1)
		g.addTo(b, b+1)
	default:
		g.value(c.Args[0], k, b)
		g.value(c.Args[1], k+1, b)
		g.load(b, 0)
		fails := g.emit(api.Instr{Op: api.ITest, B: k, C: k + 1, Val: num(c.Op), Type: g.typeOf(c.Args[0])})
		g.load(b, 1)
		g.land(fails)
	}
}

func foldOperator(fold int) int {
	switch fold {
	case api.FSum:
		return api.EAdd
	case api.FProd:
		return api.EMul
	case api.FMin:
		return api.EMin
	}
	return api.EMax
}

func (g *generator) stmt(s api.Stmt) {
	switch s.Op {
	case api.SFor:
		g.loop(s)
	case api.SIf:
		g.test(s.Expr, 0, condition)
		end := g.unless(condition)
		g.list(s.Body)
		g.land(end)
	case api.SSet:
		g.value(s.Expr, 0, condition)
		p := g.address(s.Name, s.Idx)
		g.cell(api.IStore, 0, address, p.base, p.end)
	case api.SFold:
		g.value(s.Expr, 0, condition)
		p := g.address(s.Name, s.Idx)
		g.cell(api.ILoad, 1, address, p.base, p.end)
		g.emit(api.Instr{Op: api.IOp, A: 1, B: 1, C: 0, Val: num(foldOperator(s.Fold)), Type: p.buffer.Type})
		g.cell(api.IStore, 1, address, p.base, p.end)
	}
}

func (g *generator) list(l []api.Stmt) {
	for _, s := range l {
		g.stmt(s)
	}
}

func (g *generator) loop(s api.Stmt) {
	d := len(g.depth)
	g.depth[s.Name] = d
	if s.Mark == api.MUnroll {
		// Nothing more is written once the code is too long.
		for v := 0; v < s.Many && !g.full(); v++ {
			g.load(d, v)
			g.list(s.Body)
		}
	} else {
		g.load(d, 0)
		back := g.here()
		g.list(s.Body)
		g.next(d, s.Many, back)
	}
	delete(g.depth, s.Name)
}
