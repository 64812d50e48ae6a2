package elim

import (
	"math/bits"
	"slices"

	"brocade/api"
	"brocade/constraint"
	"brocade/lin"
)

// row is a combination of the tight forms: coefficients by column, the constant, and
// the multipliers of which it is made.
type row struct {
	coef []int64
	k    int64
	eq   bool
	by   []int64
	from set
}

// set holds the inequalities, present before the first pair is formed, of which a row
// is made.
type set [api.MaxConstraints / 64]uint64

func (s set) union(t set) set {
	for i := range s {
		s[i] |= t[i]
	}
	return s
}

func (s set) size() int {
	n := 0
	for _, word := range s {
		n += bits.OnesCount64(word)
	}
	return n
}

// system is a set of rows from which variables are eliminated one after the other.
type system struct {
	tight      []api.Constraint
	rows       []row
	fuel       int
	eliminated int
}

// Infeasible decides whether the tight forms have no common rational solution.
func Infeasible(l []api.Constraint, fuel int) ([]int64, bool, api.Errno) {
	tight, err := tightForms(l)
	if err != api.OK {
		return nil, false, err
	}
	if fuel < 0 || fuel > api.MaxSteps {
		return nil, false, api.ErrArg
	}
	s := newSystem(tight, fuel)
	by, err := s.search()
	if err != api.OK {
		return nil, false, err
	}
	return by, by != nil, api.OK
}

func newSystem(tight []api.Constraint, fuel int) *system {
	var forms []api.Lin
	for _, c := range tight {
		forms = append(forms, c.Lin)
	}
	column := map[string]int{}
	for i, name := range lin.Names(forms...) {
		column[name] = i
	}
	s := &system{tight: tight, fuel: fuel}
	for i, c := range tight {
		r := row{coef: make([]int64, len(column)), k: c.Lin.K, eq: c.Eq, by: make([]int64, len(tight))}
		r.by[i] = 1
		for _, m := range c.Lin.L {
			r.coef[column[m.Name]] = m.By
		}
		s.rows = append(s.rows, r)
	}
	return s
}

// search returns the multipliers of a contradiction, or nil if there is none.
func (s *system) search() ([]int64, api.Errno) {
	// Equations come first: using one up makes no further rows.
	for {
		if by, err := s.contradiction(); by != nil || err != api.OK {
			return by, err
		}
		e, column := s.equation()
		if e < 0 {
			break
		}
		if err := s.substitute(e, column); err != api.OK {
			return nil, err
		}
	}
	for i := range s.rows {
		s.rows[i].from[i/64] = 1 << (i % 64)
	}
	for {
		column := s.cheapest()
		if column < 0 {
			return nil, api.OK
		}
		if err := s.pairUp(column); err != api.OK {
			return nil, err
		}
		if by, err := s.contradiction(); by != nil || err != api.OK {
			return by, err
		}
	}
}

// contradiction looks for a row without variables that cannot hold, and drops the
// other rows without variables.
func (s *system) contradiction() ([]int64, api.Errno) {
	var kept []row
	for _, r := range s.rows {
		if slices.ContainsFunc(r.coef, func(n int64) bool { return n != 0 }) {
			kept = append(kept, r)
			continue
		}
		c, err := constraint.Combine(s.tight, r.by)
		if err != api.OK {
			return nil, err
		}
		if contradictory(c) {
			return r.by, api.OK
		}
	}
	s.rows = kept
	return nil, api.OK
}

// equation returns the row and the column of the least coefficient of an equation.
func (s *system) equation() (int, int) {
	at, column := -1, -1
	for i, r := range s.rows {
		if !r.eq {
			continue
		}
		for k, c := range r.coef {
			if c != 0 && (at < 0 || magnitude(c) < magnitude(s.rows[at].coef[column])) {
				at, column = i, k
			}
		}
	}
	return at, column
}

// substitute removes a column by an equation.
func (s *system) substitute(e, column int) api.Errno {
	var rows []row
	for i, r := range s.rows {
		if i == e {
			continue
		}
		if r.coef[column] != 0 {
			next, err := s.join(s.rows[e], r, column)
			if err != api.OK {
				return err
			}
			r = next
		}
		rows = append(rows, r)
	}
	s.rows = rows
	return api.OK
}

// cheapest returns the column whose elimination makes the fewest rows, or -1 if no
// column is left.
func (s *system) cheapest() int {
	best, least := -1, 0
	if len(s.rows) == 0 {
		return -1
	}
	for column := range s.rows[0].coef {
		lows, ups := 0, 0
		for _, r := range s.rows {
			if r.coef[column] > 0 {
				lows++
			} else if r.coef[column] < 0 {
				ups++
			}
		}
		growth := lows*ups - lows - ups
		if lows+ups > 0 && (best < 0 || growth < least) {
			best, least = column, growth
		}
	}
	return best
}

// pairUp removes a column by combining all lower with all upper bounds. A row that is
// made of more than n + 1 inequalities after n eliminations follows from the others
// (Chernikov's rule) and is left out.
func (s *system) pairUp(column int) api.Errno {
	var lows, ups []row
	rows := s.rows
	s.rows = nil
	s.eliminated++
	for _, r := range rows {
		switch {
		case r.coef[column] > 0:
			lows = append(lows, r)
		case r.coef[column] < 0:
			ups = append(ups, r)
		default:
			s.rows = append(s.rows, r)
		}
	}
	for _, low := range lows {
		for _, up := range ups {
			if s.fuel == 0 {
				return api.ErrFuel
			}
			s.fuel--
			if low.from.union(up.from).size() > s.eliminated+1 {
				continue
			}
			r, err := s.join(low, up, column)
			if err != api.OK {
				return err
			}
			s.insert(r)
			if len(s.rows) > api.MaxConstraints {
				return api.ErrLimit
			}
		}
	}
	return api.OK
}

// insert adds a row, unless a row with the same coefficients is at least as strong.
// Only a row made of no other inequalities may stand for another one: otherwise
// Chernikov's rule could later leave out the row that is kept.
func (s *system) insert(r row) {
	for i, old := range s.rows {
		if !slices.Equal(old.coef, r.coef) {
			continue
		}
		both := old.from.union(r.from)
		if old.k <= r.k && both == r.from {
			return
		}
		if r.k <= old.k && both == old.from {
			s.rows[i] = r
			return
		}
	}
	s.rows = append(s.rows, r)
}

// join combines two rows so that a column cancels. If the signs are equal, the first
// row is an equation and gets the negative multiplier.
func (s *system) join(x, y row, column int) (row, api.Errno) {
	forX, forY, err := cancel(x.coef[column], y.coef[column])
	if err != api.OK {
		return row{}, err
	}
	fit := true
	g := uint64(0)
	mix := func(a, b []int64, into *[]int64) {
		for i := range a {
			n, ok := dot(a[i], forX, b[i], forY)
			*into = append(*into, n)
			fit = fit && ok
		}
	}
	r := row{eq: x.eq && y.eq, from: x.from.union(y.from)}
	mix(x.by, y.by, &r.by)
	mix(x.coef, y.coef, &r.coef)
	k, ok := dot(x.k, forX, y.k, forY)
	if !fit || !ok {
		return row{}, api.ErrRange
	}
	r.k = k
	for _, n := range r.by {
		g = gcd(g, magnitude(n))
	}
	if g > 1 && g < 1<<63 {
		r.divide(int64(g))
	}
	return r, api.OK
}

// divide takes a common divisor out of the multipliers, and so out of all numbers.
func (r *row) divide(g int64) {
	for i := range r.by {
		r.by[i] /= g
	}
	for i := range r.coef {
		r.coef[i] /= g
	}
	r.k /= g
}

// dot returns a*x + b*y, if it and both products fit.
func dot(a, x, b, y int64) (int64, bool) {
	p, fits := product(a, x)
	q, fits2 := product(b, y)
	sum := p + q
	overflow := (p < 0) == (q < 0) && (sum < 0) != (p < 0)
	return sum, fits && fits2 && !overflow
}

func product(a, b int64) (int64, bool) {
	high, low := bits.Mul64(magnitude(a), magnitude(b))
	n, fits := signed((a < 0) != (b < 0), low)
	return n, fits && high == 0
}
