package cse

import (
	"slices"
	"strconv"
	"strings"

	"brocade/api"
	"brocade/expr"
	"brocade/lin"
	"brocade/program"
)

// Duplicates returns the definitions that compute the same as an earlier one.
func Duplicates(p api.Prog) [][2]string {
	if _, err := program.Validate(p); err != api.OK {
		return nil
	}
	var l [][2]string
	var bodies []api.Expr
	for i, d := range p.Defs {
		bodies = append(bodies, anonymous(d))
		for k, e := range p.Defs[:i] {
			if sameHead(d, e) && expr.Same(bodies[i], bodies[k]) {
				l = append(l, [2]string{e.Name, d.Name})
				break
			}
		}
	}
	return l
}

func sameHead(a, b api.Def) bool {
	sizes := func(x, y api.Axis) bool { return lin.Same(x.Size, y.Size) }
	return a.Type == b.Type && a.Fold == b.Fold && slices.EqualFunc(a.Dims, b.Dims, sizes) && slices.EqualFunc(a.Red, b.Red, sizes)
}

// anonymous returns the body with numbers for the index names. No size is a number.
func anonymous(d api.Def) api.Expr {
	number := map[string]string{}
	for i, n := range program.IndexNames(d) {
		number[n] = strconv.Itoa(i)
	}
	body := expr.Copy(d.Body)
	rename(&body, func(f *api.Lin) {
		for i, m := range f.L {
			if n, known := number[m.Name]; known {
				f.L[i].Name = n
			}
		}
		slices.SortFunc(f.L, func(a, b api.Mono) int { return strings.Compare(a.Name, b.Name) })
	}, func(*string) {})
	return body
}

// rename applies functions to all linear forms and to the names of all tensors.
func rename(e *api.Expr, form func(*api.Lin), name func(*string)) {
	form(&e.Lin)
	name(&e.Name)
	for i := range e.Idx {
		form(&e.Idx[i].Lin)
		name(&e.Idx[i].From)
		for k := range e.Idx[i].At {
			form(&e.Idx[i].At[k])
		}
	}
	for i := range e.Args {
		rename(&e.Args[i], form, name)
	}
}

// Merge removes duplicates that are not outputs.
func Merge(p api.Prog) (api.Prog, int) {
	r := program.Copy(p)
	if _, err := program.Validate(p); err != api.OK {
		return r, 0
	}
	count := 0
	for {
		pairs := Duplicates(r)
		at := slices.IndexFunc(pairs, func(x [2]string) bool { return !slices.Contains(r.Outs, x[1]) })
		if at < 0 {
			return r, count
		}
		first, second := pairs[at][0], pairs[at][1]
		r.Defs = slices.DeleteFunc(r.Defs, func(d api.Def) bool { return d.Name == second })
		for i := range r.Defs {
			rename(&r.Defs[i].Body, func(*api.Lin) {}, func(n *string) {
				if *n == second {
					*n = first
				}
			})
		}
		count++
	}
}
