package box_test

import (
	"math"
	"math/big"
	"slices"
	"testing"

	"brocade/api"
	"brocade/box"
)

func TestValidateAndCount(t *testing.T) {
	for _, x := range []struct {
		ext   []int
		err   api.Errno
		count int
	}{
		{nil, 0, 1}, {[]int{2, 3}, 0, 6}, {[]int{0}, 0, 0}, {[]int{5, 0, 7}, 0, 0}, {[]int{65536}, 0, 65536}, {[]int{65537}, api.ErrLimit, 0}, {[]int{256, 256}, 0, 65536}, {[]int{256, 257}, api.ErrLimit, 0}, {[]int{-1}, api.ErrArg, 0}, {[]int{65537, -1}, api.ErrArg, 0}, {[]int{0, -1}, api.ErrArg, 0},
		{[]int{math.MaxInt, math.MaxInt}, api.ErrLimit, 0}, {[]int{math.MaxInt, math.MaxInt, 0}, 0, 0}, {[]int{1 << 32, 1 << 32}, api.ErrLimit, 0}, {make([]int, 16), 0, 0}, {make([]int, 17), api.ErrLimit, 0}, {[]int{2, 2, 2, 2, 2, 2, 2, 2, 2, 2, 2, 2, 2, 2, 2, 2}, 0, 65536}, {append(make([]int, 16), -1), api.ErrLimit, 0},
	} {
		if err := box.Validate(x.ext); err != x.err {
			t.Errorf("Validate(%v) = %v", x.ext, err)
		}
		if n := box.Count(x.ext); n != x.count {
			t.Errorf("Count(%v) = %d", x.ext, n)
		}
	}
}

func TestPoints(t *testing.T) {
	for _, ext := range [][]int{nil, {1}, {4}, {2, 3}, {3, 1, 2}, {0, 3}, {2, 2, 2, 2}} {
		var want [][]int
		var build func(p []int)
		build = func(p []int) {
			if len(p) == len(ext) {
				want = append(want, slices.Clone(p))
				return
			}
			for x := range ext[len(p)] {
				build(append(p, x))
			}
		}
		build(nil)
		var got [][]int
		for p := range box.All(ext) {
			got = append(got, slices.Clone(p))
			for i := range p {
				p[i] = -9
			}
		}
		if !slices.EqualFunc(got, want, slices.Equal) || len(want) != box.Count(ext) {
			t.Errorf("All(%v) = %v", ext, got)
		}
		for at, p := range want {
			if q, ok := box.Point(ext, at); !ok || !slices.Equal(q, p) {
				t.Errorf("Point(%v, %d) = %v, %v", ext, at, q, ok)
			}
			if n, ok := box.Rank(ext, p); !ok || n != at {
				t.Errorf("Rank(%v, %v) = %d, %v", ext, p, n, ok)
			}
			q, ok := box.Next(ext, p)
			last := at == len(want)-1
			if ok == last || last && len(q) != 0 || !last && !slices.Equal(q, want[at+1]) {
				t.Errorf("Next(%v, %v) = %v, %v", ext, p, q, ok)
			}
			for k, q := range want {
				c := box.Compare(p, q)
				if at < k && c != -1 || at > k && c != 1 || at == k && c != 0 {
					t.Errorf("Compare(%v, %v) = %d", p, q, c)
				}
			}
		}
		for _, at := range []int{-1, len(want), math.MaxInt, math.MinInt} {
			if q, ok := box.Point(ext, at); ok || len(q) != 0 {
				t.Errorf("Point(%v, %d) = %v, %v", ext, at, q, ok)
			}
		}
	}
}

func TestNoPoints(t *testing.T) {
	for _, x := range []struct{ ext, p []int }{{[]int{2, 3}, []int{0}}, {[]int{2, 3}, []int{0, 0, 0}}, {[]int{2, 3}, []int{2, 0}}, {[]int{2, 3}, []int{0, 3}}, {[]int{2, 3}, []int{-1, 0}}, {[]int{2, 3}, []int{0, -1}}, {nil, []int{0}}, {[]int{0}, []int{0}}, {[]int{-1}, []int{-2}}, {[]int{65537}, []int{0}}, {make([]int, 17), make([]int, 17)}, {[]int{2, 3}, nil}} {
		if n, ok := box.Rank(x.ext, x.p); ok || n != 0 {
			t.Errorf("Rank(%v, %v) = %d, %v", x.ext, x.p, n, ok)
		}
		if q, ok := box.Next(x.ext, x.p); ok || len(q) != 0 {
			t.Errorf("Next(%v, %v) = %v, %v", x.ext, x.p, q, ok)
		}
	}
	for _, ext := range [][]int{{-1}, {65537}, make([]int, 17)} {
		for p := range box.All(ext) {
			t.Errorf("All(%v) yields %v", ext, p)
		}
		if p, ok := box.Point(ext, 0); ok || len(p) != 0 {
			t.Errorf("Point(%v, 0) = %v", ext, p)
		}
	}
	ext := []int{2, 2}
	all := box.All(ext)
	ext[0] = 9
	count := 0
	for range all {
		count++
		if count == 3 {
			break
		}
	}
	for range all {
		count++
	}
	if count != 7 {
		t.Errorf("%d points: the iterator must stop when told, start anew, and keep its own extents", count)
	}
	arg := []int{0, 0}
	q, _ := box.Next([]int{2, 3}, arg)
	q[0] = 7
	if !slices.Equal(arg, []int{0, 0}) {
		t.Error("Next shares memory with its argument")
	}
}

func TestCompare(t *testing.T) {
	for _, x := range []struct {
		a, b []int
		want int
	}{{nil, nil, 0}, {nil, []int{-5}, -1}, {[]int{1, 2}, []int{1, 2, -9}, -1}, {[]int{1, 2, -9}, []int{1, 2}, 1}, {[]int{1, 3}, []int{1, 2, 9}, 1}, {[]int{math.MinInt}, []int{math.MaxInt}, -1}} {
		if got := box.Compare(x.a, x.b); got != x.want {
			t.Errorf("Compare(%v, %v) = %d", x.a, x.b, got)
		}
	}
}

func form(k int64, l ...any) api.Lin {
	f := api.Lin{K: k}
	for i := 0; i < len(l); i += 2 {
		f.L = append(f.L, api.Mono{Name: l[i].(string), By: int64(l[i+1].(int))})
	}
	return f
}

func TestRange(t *testing.T) {
	ij := []string{"i", "j"}
	for _, x := range []struct {
		f         api.Lin
		names     []string
		ext       []int
		low, high int64
		err       api.Errno
	}{
		{form(1, "i", 2, "j", -1), ij, []int{2, 4}, -2, 3, 0}, {form(1, "i", 2, "j", -1), ij, []int{3, 4}, -2, 5, 0}, {form(7), nil, nil, 7, 7, 0}, {form(0, "i", 3), []string{"i", "i"}, []int{2, 5}, 0, 3, 0},
		{form(0, "i", 0), ij, []int{-1, 2}, 0, 0, api.ErrArg}, {form(0, "i", 0), ij, []int{2, 2}, 0, 0, api.ErrArg}, {form(0, "i", 0), ij, []int{65537, 2}, 0, 0, api.ErrArg}, {form(0, "i", 1), ij, []int{65537, -1}, 0, 0, api.ErrArg}, {form(0, "q", 1), nil, []int{65537}, 0, 0, api.ErrLimit}, {form(0, "q", 1), ij, []int{2}, 0, 0, api.ErrArg}, {form(0, "q", 1), ij, []int{2, 0}, 0, 0, api.ErrArg}, {form(0, "q", 1), ij, []int{2, 2}, 0, 0, api.ErrNotFound},
		{form(math.MaxInt64, "i", 1), ij, []int{2, 2}, 0, 0, api.ErrRange}, {form(math.MinInt64, "i", -1), ij, []int{2, 2}, 0, 0, api.ErrRange}, {form(math.MaxInt64, "i", 1), ij, []int{1, 2}, math.MaxInt64, math.MaxInt64, 0}, {form(0, "i", math.MaxInt64), ij, []int{3, 2}, 0, 0, api.ErrRange}, {form(-5, "i", math.MaxInt64), ij, []int{2, 2}, -5, math.MaxInt64 - 5, 0},
		{form(0, "i", math.MinInt64), ij, []int{2, 2}, math.MinInt64, 0, 0}, {form(1, "i", math.MinInt64), ij, []int{3, 2}, 0, 0, api.ErrRange}, {form(math.MaxInt64, "i", -1, "j", 1), ij, []int{2, 2}, 0, 0, api.ErrRange}, {form(3, "i", math.MinInt64), ij, []int{1, 2}, 3, 3, 0},
		{form(0, "i", math.MinInt64/2), ij, []int{3, 2}, math.MinInt64, 0, 0},
	} {
		low, high, err := box.Range(x.f, x.names, x.ext)
		if low != x.low || high != x.high || err != x.err {
			t.Errorf("Range(%v, %v, %v) = %d, %d, %v", x.f, x.names, x.ext, low, high, err)
		}
	}
	for a := -3; a <= 3; a++ {
		for b := -3; b <= 3; b++ {
			f := api.Lin{K: 5}
			for i, by := range []int{a, b} {
				if by != 0 {
					f.L = append(f.L, api.Mono{Name: ij[i], By: int64(by)})
				}
			}
			low, high := int64(math.MaxInt64), int64(math.MinInt64)
			for p := range box.All([]int{3, 4}) {
				n := int64(5 + a*p[0] + b*p[1])
				low, high = min(low, n), max(high, n)
			}
			if l, h, err := box.Range(f, ij, []int{3, 4}); l != low || h != high || err != api.OK {
				t.Errorf("Range(%v) = %d, %d, %v; want %d, %d", f, l, h, err, low, high)
			}
		}
	}
}

// exactRange computes P9.5 with integers of any size.
func exactRange(f api.Lin, names []string, ext []int) (int64, int64, api.Errno) {
	low, high := big.NewInt(f.K), big.NewInt(f.K)
	for _, m := range f.L {
		product := new(big.Int).Mul(big.NewInt(m.By), big.NewInt(int64(ext[slices.Index(names, m.Name)]-1)))
		to := high
		if m.By < 0 {
			to = low
		}
		to.Add(to, product)
		if !product.IsInt64() || !to.IsInt64() {
			return 0, 0, api.ErrRange
		}
	}
	return low.Int64(), high.Int64(), api.OK
}

func TestRangeOverflow(t *testing.T) {
	names := []string{"i", "j"}
	var numbers []int64
	for k := range 63 {
		numbers = append(numbers, 1<<k, -1<<k, 3<<k, -3<<k, 5<<k-1, 1-5<<k)
	}
	numbers = append(numbers, 0, math.MaxInt64, math.MinInt64, math.MinInt64+1)
	constants := []int64{0, 1, -1, 1 << 62, -1 << 62, math.MaxInt64, math.MinInt64}
	seen := map[api.Errno]int{}
	for _, a := range numbers {
		for _, k := range constants {
			for _, b := range []int64{0, 1, -1, math.MaxInt64, math.MinInt64} {
				for _, ext := range [][]int{{1, 1}, {2, 2}, {3, 1}, {4, 2}, {5, 3}, {257, 1}, {65536, 1}} {
					f := api.Lin{K: k}
					for i, by := range []int64{a, b} {
						if by != 0 {
							f.L = append(f.L, api.Mono{Name: names[i], By: by})
						}
					}
					low, high, err := exactRange(f, names, ext)
					seen[err]++
					if l, h, e := box.Range(f, names, ext); l != low || h != high || e != err {
						t.Fatalf("Range(%v, %v) = %d, %d, %v; want %d, %d, %v", f, ext, l, h, e, low, high, err)
					}
				}
			}
		}
	}
	if seen[api.OK] < 1000 || seen[api.ErrRange] < 1000 {
		t.Error(seen)
	}
}
