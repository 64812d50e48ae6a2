package expr

import (
	"slices"

	"brocade/api"
	"brocade/lexer"
	"brocade/lin"
	"brocade/value"
)

// Validate accepts well-formed expressions within the limits.
func Validate(e api.Expr) api.Errno {
	if Depth(e) > api.MaxDepth {
		return api.ErrDepth
	}
	if Size(e) > api.MaxNodes {
		return api.ErrLimit
	}
	for n := range nodes(e) {
		for _, check := range []func(api.Expr) api.Errno{checkFields, checkNames, checkCounts, checkTypes, checkValues} {
			if err := check(n); err != api.OK {
				return err
			}
		}
	}
	return api.OK
}

func isZero(f api.Lin) bool { return f.K == 0 && len(f.L) == 0 }

func checkFields(e api.Expr) api.Errno {
	typed := e.Op == api.EVal || e.Op == api.ECast
	switch {
	case e.Op < api.EVal || e.Op > api.CNot,
		e.Op != api.EVal && e.Val != api.Val{},
		!typed && e.Type != api.Type{},
		e.Op != api.EIdx && !isZero(e.Lin),
		e.Op != api.ERead && (len(e.Idx) > 0 || e.Name != ""):
		return api.ErrSyntax
	}
	for _, x := range e.Idx {
		if x.From == "" && len(x.At) > 0 || x.From != "" && !isZero(x.Lin) {
			return api.ErrSyntax
		}
	}
	return api.OK
}

func checkNames(e api.Expr) api.Errno {
	if e.Op == api.ERead && !lexer.IsName(e.Name) {
		return api.ErrName
	}
	for _, x := range e.Idx {
		if x.From != "" && !lexer.IsName(x.From) {
			return api.ErrName
		}
	}
	return api.OK
}

func operands(op int) int {
	switch op {
	case api.EVal, api.EIdx, api.ERead:
		return 0
	case api.ENeg, api.ECast, api.CNot:
		return 1
	case api.EIf:
		return 3
	}
	return 2
}

func checkCounts(e api.Expr) api.Errno {
	if len(e.Args) != operands(e.Op) || len(e.Idx) > api.MaxDims {
		return api.ErrRank
	}
	if slices.ContainsFunc(e.Idx, func(x api.Index) bool { return len(x.At) > api.MaxDims }) {
		return api.ErrRank
	}
	return api.OK
}

func checkTypes(e api.Expr) api.Errno {
	if (e.Op == api.EVal || e.Op == api.ECast) && value.ValidateType(e.Type) != api.OK {
		return api.ErrType
	}
	logic := e.Op == api.CAnd || e.Op == api.COr || e.Op == api.CNot
	for i, a := range e.Args {
		if IsCondition(a) != (logic || e.Op == api.EIf && i == 0) {
			return api.ErrType
		}
	}
	return api.OK
}

func checkValues(e api.Expr) api.Errno {
	if e.Op == api.EVal && !value.Valid(e.Type, e.Val) {
		return api.ErrArg
	}
	for f := range forms(e) {
		if lin.Validate(f) != api.OK {
			return api.ErrArg
		}
	}
	return api.OK
}
