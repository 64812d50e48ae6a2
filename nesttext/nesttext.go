// Package nesttext reads loop nests in the notation of loopnest.Format, for tests and for trying things out.
package nesttext

import (
	"strconv"
	"strings"

	"brocade/api"
	"brocade/parser"
)

// Parse reads a nest. A semicolon stands for the end of a line, and braces may stand in
// the middle of one. The nest is not validated.
func Parse(s string) (api.Nest, bool) {
	s = strings.NewReplacer(";", "\n", "{", "{\n", "}", "\n}\n").Replace(s)
	r := &reader{ok: true}
	for _, line := range strings.Split(s, "\n") {
		if line = strings.TrimSpace(line); line != "" {
			r.lines = append(r.lines, line)
		}
	}
	var n api.Nest
	for len(r.lines) > 0 && isBuffer(r.lines[0]) {
		n.Bufs = append(n.Bufs, r.buffer())
	}
	n.Body = r.block()
	if !r.ok || len(r.lines) > 0 {
		return api.Nest{}, false
	}
	return n, true
}

type reader struct {
	lines []string
	ok    bool
}

func (r *reader) next() string {
	line := r.lines[0]
	r.lines = r.lines[1:]
	return line
}

func isBuffer(line string) bool {
	return strings.Contains(line, ": ") && (strings.HasSuffix(line, " in") || strings.HasSuffix(line, " out") || strings.HasSuffix(line, " temp"))
}

func (r *reader) buffer() api.Buffer {
	line := r.next()
	cut := strings.LastIndex(line, " ")
	p, _, err := parser.Prog("in " + line[:cut] + ";")
	if err != api.OK || len(p.Params) != 1 {
		r.ok = false
		return api.Buffer{}
	}
	x := p.Params[0]
	b := api.Buffer{Name: x.Name, Type: x.Type, Use: api.BTemp}
	for _, d := range x.Dims {
		b.Dims = append(b.Dims, int(d.K))
	}
	switch line[cut:] {
	case " in":
		b.Use = api.BInput
	case " out":
		b.Use = api.BOutput
	}
	return b
}

// block reads statements up to a closing brace or the end.
func (r *reader) block() []api.Stmt {
	var l []api.Stmt
	for r.ok && len(r.lines) > 0 && r.lines[0] != "}" {
		l = append(l, r.stmt())
	}
	return l
}

func (r *reader) stmt() api.Stmt {
	line := r.next()
	if strings.HasPrefix(line, "for ") {
		return r.loop(strings.Fields(line))
	}
	if head, found := strings.CutPrefix(line, "if "); found {
		s := api.Stmt{Op: api.SIf, Expr: r.expr(strings.TrimSuffix(head, "{"))}
		s.Body = r.body()
		return s
	}
	return r.store(line)
}

func (r *reader) body() []api.Stmt {
	l := r.block()
	if len(r.lines) == 0 {
		r.ok = false
		return nil
	}
	r.next()
	return l
}

// loop reads "for NAME < MANY [MARK] {".
func (r *reader) loop(words []string) api.Stmt {
	if len(words) < 5 || words[len(words)-1] != "{" {
		r.ok = false
		return api.Stmt{}
	}
	many, err := strconv.Atoi(words[3])
	r.ok = r.ok && err == nil
	s := api.Stmt{Op: api.SFor, Name: words[1], Many: many}
	switch words[4] {
	case "parallel":
		s.Mark = api.MPar
	case "vector":
		s.Mark = api.MVec
	case "unroll":
		s.Mark = api.MUnroll
	}
	s.Body = r.body()
	return s
}

func (r *reader) store(line string) api.Stmt {
	best, s := -1, api.Stmt{}
	for fold, sign := range []string{" = ", " sum= ", " prod= ", " min= ", " max= "} {
		at := strings.Index(line, sign)
		if at < 0 || best >= 0 && at > best {
			continue
		}
		best = at
		s = api.Stmt{Op: api.SFold, Fold: fold, Expr: r.expr(line[at+len(sign):])}
		if fold == api.FNone {
			s.Op = api.SSet
		}
		target := r.expr(line[:at])
		s.Name, s.Idx = target.Name, target.Idx
	}
	r.ok = r.ok && best >= 0
	return s
}

func (r *reader) expr(s string) api.Expr {
	e, _, err := parser.Expr(s)
	r.ok = r.ok && err == api.OK
	return e
}
