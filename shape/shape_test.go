package shape_test

import (
	"math"
	"slices"
	"testing"

	"brocade/api"
	"brocade/shape"
)

var good = [][]int{nil, {1}, {4096}, {2, 3}, {2, 3, 4}, {1, 1, 1, 1, 1, 1}, {4, 4, 4, 4, 4, 4}, {64, 64}, {1, 5}, {5, 1}}

var bad = []struct {
	d   []int
	err api.Errno
}{{[]int{4097}, api.ErrLimit}, {[]int{64, 65}, api.ErrLimit}, {[]int{0}, api.ErrArg}, {[]int{-3}, api.ErrArg}, {[]int{9999, 0}, api.ErrArg}, {[]int{1, 1, 1, 1, 1, 1, 1}, api.ErrLimit}, {[]int{0, 1, 1, 1, 1, 1, 1}, api.ErrLimit}, {[]int{math.MaxInt, math.MaxInt}, api.ErrLimit}, {[]int{1 << 32, 1 << 32}, api.ErrLimit}, {[]int{math.MinInt}, api.ErrArg}}

func TestInvalid(t *testing.T) {
	for _, x := range bad {
		s, ok := shape.Offset(x.d, make([]int, len(x.d)))
		p, ok2 := shape.Point(x.d, 0)
		b1, e1 := shape.Broadcast(x.d, nil)
		b2, e2 := shape.Broadcast(nil, x.d)
		q, e3 := shape.Permute(x.d, nil)
		r, e4 := shape.Slice(x.d, -1, 0, 0)
		for i, e := range []api.Errno{shape.Validate(x.d), e1, e2, e3, e4} {
			if e != x.err {
				t.Errorf("%v: call %d returns %v", x.d, i, e)
			}
		}
		if shape.Size(x.d) != 0 || shape.Strides(x.d) != nil || s != 0 || ok || ok2 || len(p)+len(b1)+len(b2)+len(q)+len(r) != 0 {
			t.Errorf("%v must have no results", x.d)
		}
	}
	if _, err := shape.Broadcast([]int{0}, []int{4097}); err != api.ErrArg {
		t.Error("the first shape is checked first")
	}
}

func TestOffsets(t *testing.T) {
	for _, d := range good {
		size := 1
		for _, n := range d {
			size *= n
		}
		strides := shape.Strides(d)
		if shape.Validate(d) != api.OK || shape.Size(d) != size || len(strides) != len(d) {
			t.Errorf("%v: %v, %d, %v", d, shape.Validate(d), shape.Size(d), strides)
		}
		last := []int(nil)
		for at := range size {
			p, ok := shape.Point(d, at)
			back, ok2 := shape.Offset(d, p)
			dot := 0
			for i, x := range p {
				dot += x * strides[i]
			}
			if !ok || !ok2 || back != at || dot != at || at > 0 && slices.Compare(last, p) >= 0 {
				t.Fatalf("%v: offset %d is %v, and back %d", d, at, p, back)
			}
			last = p
		}
		for _, at := range []int{-1, size, math.MaxInt, math.MinInt} {
			if p, ok := shape.Point(d, at); ok || len(p) != 0 {
				t.Errorf("Point(%v, %d) = %v", d, at, p)
			}
		}
	}
	for _, p := range [][]int{nil, {1}, {1, 2, 3, 0}, {2, 0, 0}, {0, 3, 0}, {0, 0, 4}, {-1, 0, 0}, {0, 0, -1}, {math.MaxInt, 0, 0}} {
		if n, ok := shape.Offset([]int{2, 3, 4}, p); ok || n != 0 {
			t.Errorf("Offset of %v is %d", p, n)
		}
	}
	if !slices.Equal(shape.Strides([]int{2, 3, 4}), []int{12, 4, 1}) {
		t.Error("Strides")
	}
	if n, ok := shape.Offset([]int{2, 3, 4}, []int{1, 2, 3}); n != 23 || !ok {
		t.Error(n, ok)
	}
}

func TestBroadcast(t *testing.T) {
	for _, x := range []struct {
		a, b, want []int
		err        api.Errno
	}{{[]int{3, 1}, []int{2, 1, 4}, []int{2, 3, 4}, 0}, {[]int{2}, []int{3}, nil, api.ErrSize}, {nil, []int{2, 3}, []int{2, 3}, 0}, {nil, nil, nil, 0}, {[]int{4096}, []int{2, 1}, nil, api.ErrLimit}, {[]int{1, 64}, []int{65, 1}, nil, api.ErrLimit}, {[]int{2, 3}, []int{3, 2}, nil, api.ErrSize}, {[]int{5, 1, 7}, []int{1, 6, 1}, []int{5, 6, 7}, 0}, {[]int{2, 4096 / 2}, []int{3, 1}, nil, api.ErrSize}} {
		got, err := shape.Broadcast(x.a, x.b)
		if !slices.Equal(got, x.want) || err != x.err {
			t.Errorf("Broadcast(%v, %v) = %v, %v", x.a, x.b, got, err)
		}
		if other, err := shape.Broadcast(x.b, x.a); !slices.Equal(other, x.want) || err != x.err {
			t.Errorf("Broadcast(%v, %v) = %v, %v", x.b, x.a, other, err)
		}
	}
	for _, d := range good {
		for many := range len(d) + 1 {
			ones := slices.Repeat([]int{1}, many)
			if got, err := shape.Broadcast(d, ones); !slices.Equal(got, d) || err != api.OK {
				t.Errorf("Broadcast(%v, %v) = %v, %v", d, ones, got, err)
			}
		}
		got, err := shape.Broadcast(d, d)
		if !slices.Equal(got, d) || err != api.OK {
			t.Errorf("Broadcast(%v) with itself is %v, %v", d, got, err)
		}
		if len(got) > 0 {
			if got[0]++; got[0] == d[0] {
				t.Error("the result shares memory with the argument")
			}
		}
	}
}

func TestPermute(t *testing.T) {
	d := []int{2, 3, 4}
	for _, x := range []struct{ order, inverse, want []int }{{[]int{0, 1, 2}, []int{0, 1, 2}, d}, {[]int{2, 0, 1}, []int{1, 2, 0}, []int{4, 2, 3}}, {[]int{1, 0, 2}, []int{1, 0, 2}, []int{3, 2, 4}}} {
		got, err := shape.Permute(d, x.order)
		if !slices.Equal(got, x.want) || err != api.OK {
			t.Errorf("Permute(%v) = %v, %v", x.order, got, err)
		}
		if back, err := shape.Permute(got, x.inverse); !slices.Equal(back, d) || err != api.OK {
			t.Errorf("Permute(%v) and back = %v, %v", x.order, back, err)
		}
	}
	for _, order := range [][]int{nil, {0, 1}, {0, 1, 2, 3}, {0, 1, 1}, {0, 1, 3}, {-1, 0, 1}, {math.MaxInt, 0, 1}} {
		if got, err := shape.Permute(d, order); len(got) != 0 || err != api.ErrArg {
			t.Errorf("Permute(%v) = %v, %v", order, got, err)
		}
	}
	if got, err := shape.Permute(nil, nil); len(got) != 0 || err != api.OK {
		t.Error(got, err)
	}
}

func TestSlice(t *testing.T) {
	d := []int{5, 2}
	for _, x := range []struct {
		axis, from, to int
		want           []int
		err            api.Errno
	}{{0, 1, 4, []int{3, 2}, 0}, {1, 0, 2, []int{5, 2}, 0}, {1, 1, 2, []int{5, 1}, 0}, {2, 9, 0, nil, api.ErrRank}, {-1, 0, 1, nil, api.ErrRank}, {0, 1, 1, nil, api.ErrBounds}, {0, 2, 1, nil, api.ErrBounds}, {0, -1, 2, nil, api.ErrBounds}, {0, 0, 6, nil, api.ErrBounds}, {0, math.MinInt, math.MaxInt, nil, api.ErrBounds}} {
		if got, err := shape.Slice(d, x.axis, x.from, x.to); !slices.Equal(got, x.want) || err != x.err {
			t.Errorf("Slice(%d, %d, %d) = %v, %v", x.axis, x.from, x.to, got, err)
		}
	}
	if _, err := shape.Slice(nil, 0, 0, 1); err != api.ErrRank {
		t.Error(err)
	}
	if !slices.Equal(d, []int{5, 2}) {
		t.Error("the argument is changed")
	}
}

func TestSame(t *testing.T) {
	if !shape.Same(nil, []int{}) || !shape.Same([]int{-1}, []int{-1}) || shape.Same([]int{1}, []int{1, 1}) || shape.Same([]int{2, 3}, []int{3, 2}) {
		t.Error("Same")
	}
}
