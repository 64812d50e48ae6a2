package isa

import (
	"slices"
	"strconv"
	"strings"

	"brocade/api"
	"brocade/frac"
)

// operatorName returns the NAME of an operator or comparison.
func operatorName(op int64) string {
	switch op {
	case api.EAdd:
		return "add"
	case api.ESub:
		return "sub"
	case api.EMul:
		return "mul"
	case api.EDiv:
		return "div"
	case api.ENeg:
		return "neg"
	case api.EMin:
		return "min"
	case api.EMax:
		return "max"
	case api.CLt:
		return "lt"
	case api.CLe:
		return "le"
	case api.CEq:
		return "eq"
	}
	return ""
}

func roundNames() []string { return []string{"", "floor", "ceil", "zero", "even"} }

func overNames() []string { return []string{"", "sat", "wrap"} }

func typeWords(t api.Type) []string {
	switch t.Kind {
	case api.KFrac:
		return []string{"frac"}
	case api.KInt:
		return []string{"int"}
	}
	return []string{"fix", strconv.Itoa(t.Bits), strconv.Itoa(t.Frac), roundNames()[t.Round], overNames()[t.Over]}
}

// words returns the parts of the text of a well-formed instruction.
func words(x api.Instr) []string {
	l := []string{mnemonics[x.Op]}
	for _, o := range layout[x.Op] {
		switch o {
		case none:
			return l
		case xA, xB, xC:
			l = append(l, "x"+strconv.Itoa(*field(&x, o)))
		case rA, rB, rC:
			l = append(l, "r"+strconv.Itoa(*field(&x, o)))
		case rCBinary:
			if !isUnary(x) {
				l = append(l, "r"+strconv.Itoa(x.C))
			}
		case fraction:
			l = append(l, frac.Format(x.Val))
		case low, typeNumber:
			l = append(l, strconv.FormatInt(x.Val.N, 10))
		case operator, comparison:
			l = append(l, operatorName(x.Val.N))
		case elementType:
			l = append(l, typeWords(x.Type)...)
		default:
			l = append(l, strconv.Itoa(*field(&x, o)))
		}
	}
	return l
}

// Format writes well-formed instructions.
func Format(l []api.Instr) string {
	var b strings.Builder
	for _, x := range l {
		if !wellFormed(x) {
			return ""
		}
		b.WriteString(strings.Join(words(x), " ") + "\n")
	}
	return b.String()
}

// Parse reads what Format writes.
func Parse(s string) ([]api.Instr, int, api.Errno) {
	lines := strings.Split(s, "\n")
	last := lines[len(lines)-1]
	lines = lines[:len(lines)-1]
	if len(lines)+min(len(last), 1) > api.MaxCode {
		return nil, 0, api.ErrLimit
	}
	var l []api.Instr
	for i, line := range lines {
		x, ok := parseLine(line)
		if !ok {
			return nil, i, api.ErrSyntax
		}
		l = append(l, x)
	}
	if last != "" {
		return nil, len(lines), api.ErrEOF
	}
	return l, 0, api.OK
}

// opcode returns the opcode with a mnemonic.
func opcode(word string) (int, bool) {
	for op, m := range mnemonics {
		if m == word {
			return op, true
		}
	}
	return 0, false
}

// parseLine reads an instruction loosely and accepts it if its text is the line.
func parseLine(line string) (api.Instr, bool) {
	parts := strings.Split(line, " ")
	op, known := opcode(parts[0])
	if !known {
		return api.Instr{}, false
	}
	x := api.Instr{Op: op}
	parts = parts[1:]
	for _, o := range layout[op] {
		if o == none || o == rCBinary && isUnary(x) {
			continue
		}
		if len(parts) == 0 {
			return api.Instr{}, false
		}
		read(&x, o, parts)
		parts = parts[1:]
	}
	ok := wellFormed(x) && strings.Join(words(x), " ") == line
	return x, ok
}

// read sets an operand. What cannot be read is left zero, and so has another text.
func read(x *api.Instr, o operand, parts []string) {
	number := func(s string) int {
		n, _ := strconv.Atoi(s)
		return n
	}
	word := parts[0]
	switch o {
	case xA, xB, xC, rA, rB, rC, rCBinary:
		if word != "" {
			*field(x, o) = number(word[1:])
		}
	case fraction:
		x.Val, _ = frac.Parse(word)
	case low, typeNumber:
		x.Val = api.Val{N: int64(number(word)), D: 1}
	case operator, comparison:
		for op := int64(api.EAdd); op <= api.CEq; op++ {
			if operatorName(op) == word {
				x.Val = api.Val{N: op, D: 1}
			}
		}
	case elementType:
		x.Type = readType(parts)
	default:
		*field(x, o) = number(word)
	}
}

func readType(parts []string) api.Type {
	switch {
	case parts[0] == "frac":
		return api.Type{Kind: api.KFrac}
	case parts[0] == "int":
		return api.Type{Kind: api.KInt}
	case len(parts) < 5:
		return api.Type{}
	}
	bits, _ := strconv.Atoi(parts[1])
	fraction, _ := strconv.Atoi(parts[2])
	return api.Type{Kind: api.KFix, Bits: bits, Frac: fraction, Round: max(slices.Index(roundNames(), parts[3]), 0), Over: max(slices.Index(overNames(), parts[4]), 0)}
}
