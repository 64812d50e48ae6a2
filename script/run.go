package script

import (
	"slices"
	"strconv"
	"strings"

	"brocade/api"
	"brocade/bounds"
	"brocade/eval"
	"brocade/forward"
	"brocade/frac"
	"brocade/parser"
	"brocade/pipeline"
	"brocade/printer"
	"brocade/program"
	"brocade/reverse"
	"brocade/schedule"
	"brocade/shape"
	"brocade/tensor"
	"brocade/value"
)

// session holds what the items so far have defined.
type session struct {
	programs  map[string]api.Prog
	schedules map[string][]api.Step
	data      map[string]api.Tensor
}

// failure is the value of the panic that ends an item.
type failure struct{ err api.Errno }

// must ends the item if there is an error.
func must(err api.Errno) {
	if err != api.OK {
		panic(failure{err})
	}
}

// execute executes an item and returns what it prints beyond its first line.
func (s *session) execute(x Item) (more string, err api.Errno) {
	defer func() {
		if f, failed := recover().(failure); failed {
			more, err = "", f.err
		}
	}()
	switch x.Op {
	case opProgram:
		p, _, err := parser.Prog(x.Text)
		must(err)
		_, err = program.Validate(p)
		must(err)
		s.programs[x.Name] = p
	case opSchedule:
		l, _, err := schedule.Parse(x.Text)
		must(err)
		s.schedules[x.Name] = l
	case opGrad:
		p, err := reverse.Prog(s.program(x.Names[0]), x.Names[1], x.Names[2:])
		must(err)
		s.programs[x.Name] = p
	case opTangent:
		p, err := forward.Prog(s.program(x.Names[0]), x.Names[1:])
		must(err)
		s.programs[x.Name] = p
	case opData:
		s.data[x.Name] = dataOf(x)
	case opRun:
		return s.run(x), api.OK
	case opShow:
		return printer.Prog(s.program(x.Name)), api.OK
	case opCheck:
		_, err := bounds.CheckSizes(s.program(x.Name), x.Sizes)
		must(err)
	}
	return "", api.OK
}

func (s *session) program(name string) api.Prog {
	p, known := s.programs[name]
	if !known {
		must(api.ErrNotFound)
	}
	return p
}

// dataOf returns the tensor of a data item.
func dataOf(x Item) api.Tensor {
	t := api.Tensor{Type: api.Type{Kind: api.KFrac}}
	for _, b := range x.Sizes {
		t.Dims = append(t.Dims, int(b.Val))
	}
	must(shape.Validate(t.Dims))
	if len(x.Names) != shape.Size(t.Dims) {
		must(api.ErrArg)
	}
	for _, text := range x.Names {
		v, err := frac.Parse(text)
		must(err)
		t.Vals = append(t.Vals, v)
	}
	return t
}

// inputs converts the data for the parameters of a program.
func (s *session) inputs(p api.Prog) []api.Named {
	var l []api.Named
	for _, x := range p.Params {
		t, known := s.data[x.Name]
		if !known {
			must(api.ErrNotFound)
		}
		c := api.Tensor{Type: x.Type, Dims: slices.Clone(t.Dims)}
		for _, v := range t.Vals {
			w, err := value.Cast(t.Type, x.Type, v)
			must(err)
			c.Vals = append(c.Vals, w)
		}
		l = append(l, api.Named{Name: x.Name, Tensor: c})
	}
	return l
}

// run executes a run item and returns its outputs as text.
func (s *session) run(x Item) string {
	p := s.program(x.Name)
	var steps []api.Step
	for _, name := range x.Names {
		l, known := s.schedules[name]
		if !known {
			must(api.ErrNotFound)
		}
		steps = l
	}
	ins := s.inputs(p)
	var outs []api.Named
	if len(x.Names) == 0 {
		l, err := eval.Run(p, x.Sizes, ins)
		must(err)
		outs = l
	} else {
		k, _, err := pipeline.Compile(p, x.Sizes, steps)
		must(err)
		l, _, err := pipeline.Run(k, ins, 16*api.MaxSteps)
		must(err)
		outs = l
	}
	var b strings.Builder
	for _, t := range outs {
		b.WriteString(t.Name + " = " + tensor.Format(t.Tensor) + "\n")
	}
	return b.String()
}

// RunItems executes items and returns what they print and how many failed.
func RunItems(l []Item) (string, int, api.Errno) {
	if len(l) > maxItems {
		return "", 0, api.ErrLimit
	}
	if at := slices.IndexFunc(l, func(x Item) bool { return !isValid(x) }); at >= 0 {
		return "", at, api.ErrSyntax
	}
	s := &session{map[string]api.Prog{}, map[string][]api.Step{}, map[string]api.Tensor{}}
	var b strings.Builder
	failed := 0
	for _, x := range l {
		b.WriteString(keyword(x.Op) + " " + x.Name)
		more, err := s.execute(x)
		if err != api.OK {
			failed++
			b.WriteString(" error " + strconv.Itoa(int(err)) + "\n")
			continue
		}
		b.WriteString(" ok\n" + more)
	}
	return b.String(), failed, api.OK
}

// Run parses and executes a script.
func Run(s string) (string, int, api.Errno) {
	l, at, err := Parse(s)
	if err != api.OK {
		return "", at, err
	}
	return RunItems(l)
}
