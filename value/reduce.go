package value

import "brocade/api"

// operator returns the operator that combines the elements of a reduction.
func operator(fold int) (int, bool) {
	switch fold {
	case api.FSum, api.FScan:
		return api.EAdd, true
	case api.FProd:
		return api.EMul, true
	case api.FMin:
		return api.EMin, true
	case api.FMax:
		return api.EMax, true
	}
	return 0, false
}

// Identity returns the neutral element of a reduction, if there is one.
func Identity(fold int, t api.Type) (api.Val, bool) {
	if ValidateType(t) != api.OK {
		return api.Val{}, false
	}
	switch fold {
	case api.FSum, api.FScan:
		return Zero(t), true
	case api.FProd:
		one, err := One(t)
		return one, err == api.OK
	}
	return api.Val{}, false
}

// Reduce combines numbers of type t from left to right.
func Reduce(fold int, t api.Type, l ...api.Val) (api.Val, api.Errno) {
	op, known := operator(fold)
	if !known {
		return api.Val{}, api.ErrArg
	}
	if err := ValidateType(t); err != api.OK {
		return api.Val{}, err
	}
	for _, v := range l {
		if !Valid(t, v) {
			return api.Val{}, api.ErrArg
		}
	}
	if len(l) == 0 {
		neutral, found := Identity(fold, t)
		if !found {
			return api.Val{}, api.ErrArg
		}
		return neutral, api.OK
	}
	total := l[0]
	for _, v := range l[1:] {
		next, err := Apply(op, t, total, v)
		if err != api.OK {
			return api.Val{}, err
		}
		total = next
	}
	return total, api.OK
}

// Reorderable reports whether the order of a reduction does not matter.
func Reorderable(fold int, t api.Type) bool {
	if ValidateType(t) != api.OK {
		return false
	}
	switch fold {
	case api.FMin, api.FMax:
		return true
	case api.FSum, api.FProd:
		return t.Kind != api.KFix
	}
	return false
}
