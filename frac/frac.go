// Package frac is layer 1: exact fractions with bounded numerator and denominator (see shared/doc/01-frac.md).
package frac

import (
	"cmp"

	"brocade/api"
)

// Valid reports whether v is a fraction in lowest terms within the limits.
func Valid(v api.Val) bool {
	if v.D < 1 || v.D > api.MaxNum || v.N < -api.MaxNum || v.N > api.MaxNum {
		return false
	}
	return gcd(magnitude(v.N), uint64(v.D)) == 1
}

// New returns n/d in lowest terms.
func New(n, d int64) (api.Val, api.Errno) {
	if d == 0 {
		return api.Val{}, api.ErrDivide
	}
	// Magnitudes are unsigned because -2^63 has no positive counterpart.
	return lowest((n < 0) != (d < 0), magnitude(n), magnitude(d))
}

// lowest returns the fraction with these magnitudes, where d is not zero.
func lowest(negative bool, n, d uint64) (api.Val, api.Errno) {
	g := gcd(n, d)
	n, d = n/g, d/g
	if n > api.MaxNum || d > api.MaxNum {
		return api.Val{}, api.ErrRange
	}
	if negative {
		return api.Val{N: -int64(n), D: int64(d)}, api.OK
	}
	return api.Val{N: int64(n), D: int64(d)}, api.OK
}

func magnitude(n int64) uint64 {
	if n < 0 {
		return -uint64(n)
	}
	return uint64(n)
}

func gcd(a, b uint64) uint64 {
	for b != 0 {
		a, b = b, a%b
	}
	return a
}

// Add returns a + b.
func Add(a, b api.Val) (api.Val, api.Errno) {
	if !Valid(a) || !Valid(b) {
		return api.Val{}, api.ErrArg
	}
	return New(a.N*b.D+b.N*a.D, a.D*b.D)
}

// Sub returns a - b.
func Sub(a, b api.Val) (api.Val, api.Errno) {
	return Add(a, api.Val{N: -b.N, D: b.D})
}

// Mul returns a * b.
func Mul(a, b api.Val) (api.Val, api.Errno) {
	if !Valid(a) || !Valid(b) {
		return api.Val{}, api.ErrArg
	}
	return New(a.N*b.N, a.D*b.D)
}

// Div returns a / b.
func Div(a, b api.Val) (api.Val, api.Errno) {
	if !Valid(a) || !Valid(b) {
		return api.Val{}, api.ErrArg
	}
	return New(a.N*b.D, a.D*b.N)
}

// Neg returns -a.
func Neg(a api.Val) api.Val {
	if !Valid(a) {
		return api.Val{}
	}
	return api.Val{N: -a.N, D: a.D}
}

// Compare orders valid fractions by value and all others by their fields.
func Compare(a, b api.Val) int {
	if Valid(a) && Valid(b) {
		return cmp.Compare(a.N*b.D, b.N*a.D)
	}
	if c := cmp.Compare(a.N, b.N); c != 0 {
		return c
	}
	return cmp.Compare(a.D, b.D)
}

// Floor returns the greatest integer that is not greater than a.
func Floor(a api.Val) int64 {
	if !Valid(a) {
		return 0
	}
	return floorDiv(a.N, a.D)
}

// Ceil returns the least integer that is not less than a.
func Ceil(a api.Val) int64 {
	if !Valid(a) {
		return 0
	}
	return -floorDiv(-a.N, a.D)
}

// floorDiv rounds n/d down, for positive d.
func floorDiv(n, d int64) int64 {
	q := n / d
	if n%d < 0 {
		q--
	}
	return q
}
