package frac

import (
	"strconv"
	"strings"

	"brocade/api"
)

// Format writes a valid fraction.
func Format(a api.Val) string {
	if !Valid(a) {
		return ""
	}
	s := strconv.FormatInt(a.N, 10)
	if a.D != 1 {
		s += "/" + strconv.FormatInt(a.D, 10)
	}
	return s
}

// Parse reads what Format writes.
func Parse(s string) (api.Val, api.Errno) {
	top, bottom, quotient := strings.Cut(s, "/")
	if !quotient {
		bottom = "1"
	}
	if !isInteger(top) || !isInteger(bottom) || bottom[0] == '-' || bottom == "0" || quotient && bottom == "1" {
		return api.Val{}, api.ErrSyntax
	}
	n, fits := bounded(top)
	d, fits2 := bounded(bottom)
	if !fits || !fits2 {
		return api.Val{}, api.ErrRange
	}
	v := api.Val{N: n, D: d}
	if !Valid(v) {
		return api.Val{}, api.ErrSyntax
	}
	return v, api.OK
}

// isInteger accepts decimal integers of any length without leading zeros.
func isInteger(s string) bool {
	digits := strings.TrimPrefix(s, "-")
	if digits == "" || digits[0] == '0' && len(s) > 1 {
		return false
	}
	for i := range len(digits) {
		if digits[i] < '0' || digits[i] > '9' {
			return false
		}
	}
	return true
}

func bounded(s string) (int64, bool) {
	n, err := strconv.ParseInt(s, 10, 64)
	return n, err == nil && n >= -api.MaxNum && n <= api.MaxNum
}
