package arena_test

import (
	"math"
	"slices"
	"strconv"
	"testing"

	"brocade/api"
	"brocade/arena"
)

func life(name string, from, to, size int) api.Lifetime {
	return api.Lifetime{Name: name, From: from, To: to, Size: size}
}

func slot(name string, at, many int) api.Slot { return api.Slot{Name: name, At: at, Len: many} }

func TestPlan(t *testing.T) {
	for _, x := range []struct {
		l    []api.Lifetime
		want []api.Slot
		size int
	}{
		{nil, nil, 0}, {[]api.Lifetime{life("a", 0, 1, 4), life("b", 2, 3, 4)}, []api.Slot{slot("a", 0, 4), slot("b", 0, 4)}, 4}, {[]api.Lifetime{life("a", 0, 2, 4), life("b", 2, 3, 4)}, []api.Slot{slot("a", 0, 4), slot("b", 4, 4)}, 8}, {[]api.Lifetime{life("a", 0, 9, 2), life("b", 0, 3, 5), life("c", 4, 9, 3), life("d", 4, 4, 2)}, []api.Slot{slot("a", 5, 2), slot("b", 0, 5), slot("c", 0, 3), slot("d", 3, 2)}, 7}, {[]api.Lifetime{life("a", 0, 0, 8), life("b", 0, 1, 3), life("c", 1, 1, 3), life("d", 1, 1, 2), life("e", 1, 1, 6)}, []api.Slot{slot("a", 0, 8), slot("b", 8, 3), slot("c", 11, 3), slot("d", 6, 2), slot("e", 0, 6)}, 14},
	} {
		got, size, err := arena.Plan(x.l)
		if !slices.Equal(got, x.want) || size != x.size || err != api.OK {
			t.Errorf("Plan(%v) = %v, %d, %v", x.l, got, size, err)
		}
	}
}

func TestInvalid(t *testing.T) {
	bad := []api.Lifetime{life("a", 0, 0, 1), life("a", 0, 0, 1)}
	p, size, e1 := arena.Plan(bad)
	at, e2 := arena.Check(bad, nil, -5)
	best, e3 := arena.Optimal(append(bad, make([]api.Lifetime, 9)...))
	if len(p) != 0 || size != 0 || at != 0 || best != 0 || arena.LowerBound(bad) != 0 || e1 != api.ErrDuplicate || e2 != api.ErrDuplicate || e3 != api.ErrDuplicate {
		t.Error(p, size, at, best, e1, e2, e3)
	}
	var many []api.Lifetime
	for i := range 8 {
		many = append(many, life("a"+strconv.Itoa(i), 0, i, 1))
	}
	if best, err := arena.Optimal(many); best != 0 || err != api.ErrLimit {
		t.Error(best, err)
	}
	if best, err := arena.Optimal(many[:7]); best != 7 || err != api.OK {
		t.Error(best, err)
	}
}

func TestCheck(t *testing.T) {
	l := []api.Lifetime{life("a", 0, 2, 4), life("b", 2, 3, 4), life("c", 3, 3, 2)}
	for _, x := range []struct {
		slots []api.Slot
		size  int
		at    int
		err   api.Errno
	}{
		{[]api.Slot{slot("a", 0, 4), slot("b", 4, 4), slot("c", 2, 2)}, 8, 0, 0}, {[]api.Slot{slot("a", 0, 4), slot("b", 0, 4), slot("c", 4, 2)}, 8, 1, api.ErrOverlap}, {[]api.Slot{slot("a", 0, 4), slot("b", 3, 4), slot("c", 4, 2)}, 8, 1, api.ErrOverlap}, {[]api.Slot{slot("a", 3, 4), slot("b", 0, 4), slot("c", 4, 2)}, 8, 1, api.ErrOverlap}, {[]api.Slot{slot("a", 0, 4), slot("b", 4, 4), slot("c", 7, 2)}, 9, 2, api.ErrOverlap}, {[]api.Slot{slot("a", 0, 4), slot("b", 4, 4), slot("c", 7, 2)}, 8, 2, api.ErrNoSpace},
		{nil, 8, 0, api.ErrSize}, {[]api.Slot{slot("a", 0, 4), slot("b", 4, 4)}, -8, 0, api.ErrSize}, {[]api.Slot{slot("a", -1, 4), slot("b", 4, 4), slot("c", 2, 2)}, 8, 0, api.ErrNoSpace}, {[]api.Slot{slot("a", 0, 4), slot("b", 5, 4), slot("c", 2, 2)}, 8, 1, api.ErrNoSpace}, {[]api.Slot{slot("a", 0, 4), slot("x", 5, 4), slot("c", 2, 2)}, 8, 1, api.ErrArg}, {[]api.Slot{slot("a", -5, 3), slot("b", 5, 4), slot("c", 2, 2)}, 8, 0, api.ErrArg}, {[]api.Slot{slot("a", math.MaxInt, 4), slot("b", 4, 4), slot("c", 2, 2)}, math.MaxInt, 0, api.ErrNoSpace}, {[]api.Slot{slot("a", 0, 4), slot("b", 4, 4), slot("c", 2, 2)}, math.MinInt, 0, api.ErrNoSpace}, {[]api.Slot{slot("a", math.MaxInt-4, 4), slot("b", 4, 4), slot("c", 2, 2)}, math.MaxInt, 0, 0},
	} {
		if at, err := arena.Check(l, x.slots, x.size); at != x.at || err != x.err {
			t.Errorf("Check(%v, %d) = %d, %v", x.slots, x.size, at, err)
		}
	}
	if at, err := arena.Check(nil, nil, -1); at != 0 || err != api.OK {
		t.Error(at, err)
	}
}

// exact finds the least size by trying all offsets.
func exact(l []api.Lifetime) int {
	for size := 0; ; size++ {
		slots := make([]api.Slot, len(l))
		var place func(i int) bool
		place = func(i int) bool {
			if i == len(l) {
				return true
			}
			for at := 0; at+l[i].Size <= size; at++ {
				slots[i] = slot(l[i].Name, at, l[i].Size)
				if _, err := arena.Check(l[:i+1], slots[:i+1], size); err == api.OK && place(i+1) {
					return true
				}
			}
			return false
		}
		if place(0) {
			return size
		}
	}
}

// TestBounds holds P42.5 and compares with a search.
func TestBounds(t *testing.T) {
	seed := uint64(4)
	next := func(n int) int {
		seed = seed*6364136223846793005 + 1442695040888963407
		return int(seed>>33) % n
	}
	for range 300 {
		var l []api.Lifetime
		for i := range next(6) {
			from := next(4)
			l = append(l, life("b"+strconv.Itoa(i), from, from+next(3), 1+next(4)))
		}
		slots, size, err := arena.Plan(l)
		best, err2 := arena.Optimal(l)
		if _, err3 := arena.Check(l, slots, size); err != api.OK || err2 != api.OK || err3 != api.OK {
			t.Fatal(l, err, err2, err3)
		}
		low := 0
		for at := range 8 {
			sum := 0
			for _, x := range l {
				if x.From <= at && at <= x.To {
					sum += x.Size
				}
			}
			low = max(low, sum)
		}
		if arena.LowerBound(l) != low || low > best || best > size || best != exact(l) {
			t.Errorf("%v: %d, %d, %d, %d", l, arena.LowerBound(l), best, size, exact(l))
		}
	}
}
