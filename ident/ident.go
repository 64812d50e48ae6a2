// Package ident tells identifiers from other strings and names in use from free ones, for all layers.
package ident

import (
	"slices"

	"brocade/api"
)

// IsKeyword reports whether s is a reserved word.
func IsKeyword(s string) bool {
	switch s {
	case "size", "where", "in", "def", "out", "sum", "prod", "min", "max", "scan", "over", "if", "cast",
		"frac", "int", "fix", "ceil", "floor", "zero", "even", "sat", "wrap":
		return true
	}
	return false
}

// IsName reports whether s is an identifier.
func IsName(s string) bool {
	if len(s) == 0 || len(s) > api.MaxName || s[0] < 'a' || s[0] > 'z' {
		return false
	}
	for i := range len(s) {
		if !IsWordByte(s[i]) {
			return false
		}
	}
	return !IsKeyword(s)
}

// IsWordByte reports whether a word can continue with c.
func IsWordByte(c byte) bool {
	return c >= 'a' && c <= 'z' || c >= '0' && c <= '9' || c == '_'
}

// Used returns the names of all sizes, tensors and axes of a program.
func Used(p api.Prog) map[string]bool {
	used := map[string]bool{}
	for _, n := range p.Sizes {
		used[n] = true
	}
	for _, x := range p.Params {
		used[x.Name] = true
	}
	for _, d := range p.Defs {
		used[d.Name] = true
		for _, a := range slices.Concat(d.Dims, d.Red) {
			used[a.Name] = true
		}
	}
	return used
}
