package parser

import (
	"strconv"

	"brocade/api"
	"brocade/value"
)

// signed returns the number with these digits, if it fits.
func signed(negative bool, digits string) (int64, bool) {
	if negative {
		digits = "-" + digits
	}
	n, err := strconv.ParseInt(digits, 10, 64)
	return n, err == nil
}

// binary reads operands that are joined by the given operators, from the left.
func (r *reader) binary(operand func() api.Expr, ops ...int) api.Expr {
	e := operand()
	for {
		op := r.operator(ops)
		if op == 0 {
			return e
		}
		r.at++
		e = api.Expr{Op: op, Args: []api.Expr{e, operand()}}
	}
}

func symbol(op int) string {
	switch op {
	case api.COr:
		return "|"
	case api.CAnd:
		return "&"
	case api.CLt:
		return "<"
	case api.CLe:
		return "<="
	case api.CEq:
		return "=="
	case api.EAdd:
		return "+"
	case api.ESub:
		return "-"
	case api.EMul:
		return "*"
	}
	return "/"
}

// operator returns the one of the operators that comes next, or 0.
func (r *reader) operator(ops []int) int {
	for _, op := range ops {
		if r.sign(symbol(op)) {
			return op
		}
	}
	return 0
}

func (r *reader) or() api.Expr { return r.binary(r.and, api.COr) }

func (r *reader) and() api.Expr { return r.binary(r.not, api.CAnd) }

func (r *reader) not() api.Expr {
	if r.sign("!") {
		return r.prefix(api.CNot, r.not)
	}
	return r.binary(r.sum, api.CLt, api.CLe, api.CEq)
}

func (r *reader) sum() api.Expr { return r.binary(r.product, api.EAdd, api.ESub) }

func (r *reader) product() api.Expr { return r.binary(r.unary, api.EMul, api.EDiv) }

func (r *reader) unary() api.Expr {
	if r.sign("-") {
		return r.prefix(api.ENeg, r.unary)
	}
	return r.primary()
}

// prefix reads a unary operator, which comes next, and its operand.
func (r *reader) prefix(op int, operand func() api.Expr) api.Expr {
	r.open()
	e := api.Expr{Op: op, Args: []api.Expr{operand()}}
	r.nest--
	return e
}

// open skips a token in which others are nested.
func (r *reader) open() {
	if r.nest > maxNesting {
		r.fail(r.at, api.ErrDepth)
	}
	r.nest++
	r.at++
}

// parenthesis reads what f reads, in parentheses.
func (r *reader) parenthesis(f func()) {
	if !r.sign("(") {
		r.reject()
	}
	r.open()
	f()
	r.expect(")")
	r.nest--
}

func (r *reader) primary() api.Expr {
	switch {
	case r.sign("("):
		var e api.Expr
		r.parenthesis(func() { e = r.or() })
		return e
	case r.accept("["):
		f := r.form()
		r.expect("]")
		return api.Expr{Op: api.EIdx, Lin: f}
	case r.isName():
		return r.read()
	case r.isType():
		return r.constant()
	case r.word("min"):
		return r.call(api.EMin, 2)
	case r.word("max"):
		return r.call(api.EMax, 2)
	case r.word("if"):
		return r.call(api.EIf, 3)
	case r.word("cast"):
		return r.cast()
	}
	r.reject()
	return api.Expr{}
}

// call reads a word, which comes next, and its arguments.
func (r *reader) call(op, many int) api.Expr {
	r.at++
	e := api.Expr{Op: op}
	r.parenthesis(func() {
		for i := range many {
			if i > 0 {
				r.expect(",")
			}
			e.Args = append(e.Args, r.or())
		}
	})
	return e
}

func (r *reader) cast() api.Expr {
	r.at++
	e := api.Expr{Op: api.ECast}
	r.parenthesis(func() {
		e.Type = r.elementType()
		r.expect(",")
		e.Args = []api.Expr{r.or()}
	})
	return e
}

// read reads an element of a tensor.
func (r *reader) read() api.Expr {
	e := api.Expr{Op: api.ERead, Name: r.name()}
	r.expect("[")
	for first := true; !r.accept("]"); first = false {
		if !first {
			r.expect(",")
		}
		e.Idx = append(e.Idx, r.index())
	}
	return e
}

func (r *reader) index() api.Index {
	if r.isName() && r.is(r.at+1, api.KSign, "[") {
		from := r.name()
		r.at++
		return api.Index{From: from, At: r.forms()}
	}
	return api.Index{Lin: r.form()}
}

func (r *reader) isType() bool { return r.word("frac") || r.word("int") || r.word("fix") }

func (r *reader) constant() api.Expr {
	t := r.elementType()
	r.expect("(")
	first := r.at
	text := ""
	if r.accept("-") {
		text = "-"
	}
	text += r.number()
	if r.accept("/") {
		text += "/" + r.number()
	}
	v, err := value.Parse(t, text)
	if err != api.OK {
		r.fail(first, err)
	}
	r.expect(")")
	return api.Expr{Op: api.EVal, Type: t, Val: v}
}

func (r *reader) elementType() api.Type {
	first := r.at
	if !r.isType() {
		r.reject()
	}
	r.at++
	switch r.l[first].Text {
	case "frac":
		return api.Type{Kind: api.KFrac}
	case "int":
		return api.Type{Kind: api.KInt}
	}
	t := api.Type{Kind: api.KFix}
	r.expect("(")
	t.Bits = r.small()
	r.expect(",")
	t.Frac = r.small()
	r.expect(",")
	t.Round = r.choice("floor", "ceil", "zero", "even")
	r.expect(",")
	t.Over = r.choice("sat", "wrap")
	r.expect(")")
	if err := value.ValidateType(t); err != api.OK {
		r.fail(first, err)
	}
	return t
}

func (r *reader) small() int {
	n, fits := signed(false, r.number())
	if !fits || n > api.MaxNum {
		r.fail(r.at-1, api.ErrRange)
	}
	return int(n)
}

// choice reads one of some words and returns its number, from 1.
func (r *reader) choice(words ...string) int {
	for i, w := range words {
		if r.word(w) {
			r.at++
			return i + 1
		}
	}
	r.reject()
	return 0
}

// item reads one item of a program.
func (r *reader) item(p *api.Prog) {
	switch {
	case r.word("size"):
		p.Sizes = r.names(p.Sizes)
	case r.word("out"):
		p.Outs = r.names(p.Outs)
	case r.word("where"):
		p.Where = append(p.Where, r.where())
	case r.word("in"):
		r.at++
		x := api.Param{Name: r.name()}
		r.expect(":")
		x.Type = r.elementType()
		r.expect("[")
		x.Dims = r.forms()
		p.Params = append(p.Params, x)
	case r.word("def"):
		p.Defs = append(p.Defs, r.def())
	default:
		r.reject()
	}
	r.expect(";")
}

// names reads a keyword, which comes next, and names separated by commas.
func (r *reader) names(l []string) []string {
	r.at++
	l = append(l, r.name())
	for r.accept(",") {
		l = append(l, r.name())
	}
	return l
}

func (r *reader) where() api.Constraint {
	r.at++
	if !r.is(r.at, api.KNum, "0") {
		r.reject()
	}
	r.at++
	c := api.Constraint{Eq: r.accept("==")}
	if !c.Eq {
		r.expect("<=")
	}
	c.Lin = r.form()
	return c
}

func (r *reader) def() api.Def {
	r.at++
	d := api.Def{Name: r.name()}
	r.expect(":")
	d.Type = r.elementType()
	r.expect("[")
	if !r.accept("]") {
		d.Dims = r.axes()
		r.expect("]")
	}
	r.expect("=")
	if d.Fold = r.fold(); d.Fold != api.FNone {
		r.at++
		if r.isName() {
			d.Red = r.axes()
		}
		r.expect(":")
	}
	d.Body = r.checkedExpr()
	return d
}

// fold returns the reduction whose word comes next.
func (r *reader) fold() int {
	switch {
	case r.word("sum"):
		return api.FSum
	case r.word("prod"):
		return api.FProd
	case r.word("scan"):
		return api.FScan
	case r.is(r.at+1, api.KSign, "("):
		return api.FNone
	case r.word("min"):
		return api.FMin
	case r.word("max"):
		return api.FMax
	}
	return api.FNone
}

func (r *reader) axes() []api.Axis {
	var l []api.Axis
	for {
		a := api.Axis{Name: r.name()}
		r.expect("<")
		a.Size = r.form()
		l = append(l, a)
		if !r.accept(",") {
			return l
		}
	}
}
