package loopnest

import (
	"strconv"
	"strings"

	"brocade/api"
	"brocade/printer"
)

// Format writes a valid nest.
func Format(n api.Nest) string {
	var b strings.Builder
	for _, x := range n.Bufs {
		dims := make([]string, len(x.Dims))
		for i := range len(dims) {
			dims[i] = strconv.Itoa(x.Dims[i])
		}
		b.WriteString(x.Name + ": " + printer.Type(x.Type) + "[" + strings.Join(dims, ", ") + "] " + useName(x.Use) + "\n")
	}
	write(&b, "", n.Body)
	return b.String()
}

func useName(use int) string {
	switch use {
	case api.BInput:
		return "in"
	case api.BOutput:
		return "out"
	}
	return "temp"
}

func markName(mark int) string {
	switch mark {
	case api.MPar:
		return " parallel"
	case api.MVec:
		return " vector"
	case api.MUnroll:
		return " unroll"
	}
	return ""
}

func foldSign(fold int) string {
	switch fold {
	case api.FSum:
		return " sum= "
	case api.FProd:
		return " prod= "
	case api.FMin:
		return " min= "
	case api.FMax:
		return " max= "
	}
	return " = "
}

func write(b *strings.Builder, indent string, l []api.Stmt) {
	for i := range len(l) {
		s := l[i]
		head := ""
		switch s.Op {
		case api.SFor:
			head = "for " + s.Name + " < " + strconv.Itoa(s.Many) + markName(s.Mark)
		case api.SIf:
			head = "if " + printer.Expr(s.Expr)
		default:
			target := printer.Expr(api.Expr{Op: api.ERead, Name: s.Name, Idx: s.Idx})
			b.WriteString(indent + target + foldSign(s.Fold) + printer.Expr(s.Expr) + "\n")
			continue
		}
		b.WriteString(indent + head + " {\n")
		write(b, indent+"  ", s.Body)
		b.WriteString(indent + "}\n")
	}
}
