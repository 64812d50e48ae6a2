package frac

import "brocade/api"

// Sum returns the exact sum of any number of fractions.
func Sum(l ...api.Val) (api.Val, api.Errno) {
	for _, v := range l {
		if !Valid(v) {
			return api.Val{}, api.ErrArg
		}
	}
	total := api.Val{D: 1}
	for _, v := range l {
		next, err := Add(total, v)
		if err != api.OK {
			return sumByPrimes(l)
		}
		total = next
	}
	return total, api.OK
}

// part is the fraction n/q, where q is a power of the prime p and 0 <= n < q.
type part struct{ p, n, q int64 }

// sumByPrimes adds fractions whose partial sums do not fit. Every fraction is an
// integer plus one part for each prime of its denominator, and parts of different
// primes never cancel; so nothing ever exceeds 64 bits.
func sumByPrimes(l []api.Val) (api.Val, api.Errno) {
	whole := int64(0)
	index := map[int64]int{}
	var parts []part
	small := primes()
	for _, v := range l {
		rest := v.N
		for _, x := range factors(v.D, small) {
			m := v.D / x.q
			x.n = mod(v.N, x.q) * inverse(m%x.q, x.q) % x.q
			rest -= x.n * m
			k, known := index[x.p]
			if !known {
				index[x.p] = len(parts)
				parts = append(parts, x)
				continue
			}
			var carry int64
			parts[k], carry = addParts(parts[k], x)
			whole += carry
		}
		whole += rest / v.D
	}
	return join(whole, parts)
}

// addParts adds two parts of the same prime and returns the integer that is carried.
func addParts(a, b part) (part, int64) {
	q := max(a.q, b.q)
	n := a.n*(q/a.q) + b.n*(q/b.q)
	return part{a.p, n % q, q}, n / q
}

// join adds an integer and parts of different primes.
func join(whole int64, parts []part) (api.Val, api.Errno) {
	d := int64(1)
	var left []part
	for _, x := range parts {
		for x.q > 1 && x.n%x.p == 0 {
			x.n, x.q = x.n/x.p, x.q/x.p
		}
		if x.q == 1 {
			continue
		}
		if d *= x.q; d > api.MaxNum {
			return api.Val{}, api.ErrRange
		}
		left = append(left, x)
	}
	// There are at most 9 parts, each less than 1: no other integer can be balanced.
	if whole < -api.MaxNum-16 || whole > api.MaxNum {
		return api.Val{}, api.ErrRange
	}
	n := whole * d
	for _, x := range left {
		n += x.n * (d / x.q)
	}
	return New(n, d)
}

// primes returns the primes whose squares may divide a denominator.
func primes() []int64 {
	const limit = 46341
	var composite [limit]bool
	var l []int64
	for p := 2; p < limit; p++ {
		if composite[p] {
			continue
		}
		l = append(l, int64(p))
		for k := p * p; k < limit; k += p {
			composite[k] = true
		}
	}
	return l
}

// factors returns the prime powers of d as parts with the numerator 0.
func factors(d int64, small []int64) []part {
	var l []part
	for _, p := range small {
		if p*p > d {
			break
		}
		q := int64(1)
		for d%p == 0 {
			d, q = d/p, q*p
		}
		if q > 1 {
			l = append(l, part{p, 0, q})
		}
	}
	if d > 1 {
		l = append(l, part{d, 0, d})
	}
	return l
}

func mod(a, m int64) int64 {
	if a %= m; a < 0 {
		a += m
	}
	return a
}

// inverse returns the x with a*x = 1 modulo m, where a and m are coprime.
func inverse(a, m int64) int64 {
	x, y := int64(1), int64(0)
	for b := m; b != 0; {
		q := a / b
		a, b = b, a-q*b
		x, y = y, x-q*y
	}
	return mod(x, m)
}
