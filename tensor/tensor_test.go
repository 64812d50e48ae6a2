package tensor_test

import (
	"math"
	"slices"
	"strings"
	"testing"

	"brocade/api"
	"brocade/shape"
	"brocade/tensor"
	"brocade/value"
)

var (
	kint  = api.Type{Kind: api.KInt}
	kfrac = api.Type{Kind: api.KFrac}
	kfix  = api.Type{Kind: api.KFix, Bits: 8, Frac: 4, Round: api.REven, Over: api.OSat}
)

func ints(dims []int, l ...int64) api.Tensor {
	t := api.Tensor{Type: kint, Dims: dims}
	for _, n := range l {
		t.Vals = append(t.Vals, api.Val{N: n, D: 1})
	}
	return t
}

// count is the tensor of the shape with the elements 0, 1, 2, ..
func count(dims ...int) api.Tensor {
	t := api.Tensor{Type: kint, Dims: dims}
	for n := range shape.Size(dims) {
		t.Vals = append(t.Vals, api.Val{N: int64(n), D: 1})
	}
	return t
}

var square = ints([]int{2, 2}, 1, 2, 3, 4)

// broken lists invalid tensors with the error of Validate.
var broken = []struct {
	t   api.Tensor
	err api.Errno
}{
	{api.Tensor{}, api.ErrType}, {api.Tensor{Type: api.Type{Kind: 9}, Dims: []int{0}}, api.ErrType}, {ints([]int{0}), api.ErrArg}, {ints([]int{5000}), api.ErrLimit}, {ints([]int{1, 1, 1, 1, 1, 1, 1}, 1), api.ErrLimit},
	{ints([]int{2}, 1), api.ErrArg}, {ints([]int{2}, 1, 2, 3), api.ErrArg}, {ints(nil), api.ErrArg}, {ints([]int{2}, 1, 1<<31), api.ErrArg}, {api.Tensor{Type: kint, Vals: []api.Val{{N: 1, D: 2}}}, api.ErrArg}, {api.Tensor{Type: kfix, Vals: []api.Val{{N: 128, D: 1}}}, api.ErrArg},
}

func isZero(t api.Tensor) bool { return t.Type == api.Type{} && len(t.Dims)+len(t.Vals) == 0 }

func plus(x, y api.Val) (api.Val, api.Errno) { return value.Apply(api.EAdd, kint, x, y) }

func TestValidate(t *testing.T) {
	for _, x := range []api.Tensor{square, ints(nil, 7), count(4096), {Type: kfrac, Vals: []api.Val{{N: 1, D: 2}}}, {Type: kfix, Dims: []int{2}, Vals: []api.Val{{N: -128, D: 1}, {N: 127, D: 1}}}} {
		if tensor.Validate(x) != api.OK {
			t.Errorf("%v must be valid", x)
		}
		y, err := tensor.New(x.Type, x.Dims, x.Vals...)
		if err != api.OK || !tensor.Same(x, y) {
			t.Errorf("New = %v, %v", y, err)
		}
	}
	for _, x := range broken {
		v, e1 := tensor.At(x.t, 9, 9)
		s, e2 := tensor.Set(x.t, api.Val{}, 9)
		z, e3 := tensor.Zip(x.t, x.t, plus)
		y, e4 := tensor.Zip(square, x.t, plus)
		r, e5 := tensor.Reduce(x.t, -1, 0)
		p, e6 := tensor.Permute(x.t, []int{7})
		q, e7 := tensor.Slice(x.t, -1, 0, 0)
		c, e8 := tensor.Concat(-1, square, x.t)
		n, e9 := tensor.New(x.t.Type, x.t.Dims, x.t.Vals...)
		for i, e := range []api.Errno{tensor.Validate(x.t), e1, e2, e3, e4, e5, e6, e7, e8, e9} {
			if e != x.err {
				t.Errorf("%v: call %d returns %v", x.t, i, e)
			}
		}
		if v != (api.Val{}) || !isZero(s) || !isZero(z) || !isZero(y) || !isZero(r) || !isZero(p) || !isZero(q) || !isZero(c) || !isZero(n) || tensor.Format(x.t) != "" {
			t.Errorf("%v: results beside an error", x.t)
		}
	}
}

func TestFull(t *testing.T) {
	one := api.Val{N: 1, D: 1}
	for _, x := range []struct {
		t    api.Type
		dims []int
		v    api.Val
		err  api.Errno
	}{{kint, []int{2, 3}, one, 0}, {kint, nil, one, 0}, {api.Type{}, []int{0}, one, api.ErrType}, {kint, []int{0}, api.Val{}, api.ErrArg}, {kint, []int{5000}, api.Val{}, api.ErrLimit}, {kint, []int{2}, api.Val{N: 1, D: 2}, api.ErrArg}} {
		got, err := tensor.Full(x.t, x.dims, x.v)
		if err != x.err || err != api.OK && !isZero(got) {
			t.Errorf("Full(%v) = %v, %v", x, got, err)
		}
		if err == api.OK && (tensor.Validate(got) != api.OK || !shape.Same(got.Dims, x.dims) || slices.ContainsFunc(got.Vals, func(v api.Val) bool { return v != x.v })) {
			t.Errorf("Full(%v) = %v", x, got)
		}
	}
}

func TestAtAndSet(t *testing.T) {
	x := count(2, 3)
	for i := range 2 {
		for j := range 3 {
			if v, err := tensor.At(x, i, j); v.N != int64(i*3+j) || err != api.OK {
				t.Errorf("At(%d, %d) = %v, %v", i, j, v, err)
			}
			y, err := tensor.Set(x, api.Val{N: 99, D: 1}, i, j)
			if err != api.OK {
				t.Error(err)
			}
			for k, v := range y.Vals {
				if want := int64(k); k == i*3+j && v.N != 99 || k != i*3+j && v.N != want {
					t.Errorf("Set(%d, %d): element %d is %v", i, j, k, v)
				}
			}
		}
	}
	for _, c := range []struct {
		p   []int
		err api.Errno
	}{{[]int{0, 3}, api.ErrBounds}, {[]int{2, 0}, api.ErrBounds}, {[]int{-1, 0}, api.ErrBounds}, {[]int{0}, api.ErrRank}, {nil, api.ErrRank}, {[]int{0, 0, 0}, api.ErrRank}, {[]int{9}, api.ErrRank}, {[]int{math.MaxInt, 0}, api.ErrBounds}} {
		if v, err := tensor.At(x, c.p...); v != (api.Val{}) || err != c.err {
			t.Errorf("At(%v) = %v, %v", c.p, v, err)
		}
		if y, err := tensor.Set(x, api.Val{}, c.p...); !isZero(y) || err != c.err {
			t.Errorf("Set(%v) = %v, %v", c.p, y, err)
		}
	}
	if y, err := tensor.Set(x, api.Val{N: 1, D: 2}, 0, 0); !isZero(y) || err != api.ErrArg {
		t.Error(y, err)
	}
	if v, err := tensor.At(ints(nil, 7)); v.N != 7 || err != api.OK {
		t.Error(v, err)
	}
}

func TestZip(t *testing.T) {
	calls := 0
	failing := func(x, y api.Val) (api.Val, api.Errno) {
		if calls++; calls == 3 {
			return x, api.ErrDivide
		}
		return x, api.OK
	}
	invalid := func(x, y api.Val) (api.Val, api.Errno) { return api.Val{N: 1, D: 2}, api.OK }
	other := api.Tensor{Type: kfrac, Dims: []int{2}, Vals: []api.Val{{N: 1, D: 1}, {N: 1, D: 1}}}
	for _, x := range []struct {
		a, b api.Tensor
		f    func(x, y api.Val) (api.Val, api.Errno)
		err  api.Errno
	}{{api.Tensor{}, api.Tensor{}, nil, api.ErrArg}, {ints([]int{2}, 1), api.Tensor{}, plus, api.ErrArg}, {square, other, plus, api.ErrType}, {square, ints([]int{4}, 1, 2, 3, 4), plus, api.ErrSize}, {square, square, failing, api.ErrDivide}, {square, square, invalid, api.ErrArg}, {ints(nil, api.MaxNum), ints(nil, 1), plus, api.ErrRange}} {
		if got, err := tensor.Zip(x.a, x.b, x.f); !isZero(got) || err != x.err {
			t.Errorf("Zip(%v, %v) = %v, %v", x.a, x.b, got, err)
		}
	}
	if calls != 3 {
		t.Errorf("f is called %d times", calls)
	}
	var seen []int64
	got, err := tensor.Zip(square, count(2, 2), func(x, y api.Val) (api.Val, api.Errno) {
		seen = append(seen, x.N*10+y.N)
		return plus(x, y)
	})
	if err != api.OK || !tensor.Same(got, ints([]int{2, 2}, 1, 3, 5, 7)) || !slices.Equal(seen, []int64{10, 21, 32, 43}) {
		t.Error(got, err, seen)
	}
}

func TestReduce(t *testing.T) {
	for _, x := range []struct {
		t          api.Tensor
		axis, fold int
		want       string
		err        api.Errno
	}{
		{square, 0, api.FSum, "[4, 6]", 0}, {square, 1, api.FSum, "[3, 7]", 0}, {square, 0, api.FProd, "[3, 8]", 0}, {square, 1, api.FMin, "[1, 3]", 0}, {square, 0, api.FMax, "[3, 4]", 0}, {square, 1, api.FScan, "[[1, 3], [3, 7]]", 0}, {square, 0, api.FScan, "[[1, 2], [4, 6]]", 0},
		{count(2, 3, 2), 1, api.FSum, "[[6, 9], [24, 27]]", 0}, {count(2, 3, 2), 1, api.FScan, "[[[0, 1], [2, 4], [6, 9]], [[6, 7], [14, 16], [24, 27]]]", 0}, {ints([]int{3}, 2, 3, 4), 0, api.FProd, "24", 0},
		{square, 2, 0, "", api.ErrRank}, {square, -1, api.FSum, "", api.ErrRank}, {ints(nil, 1), 0, api.FSum, "", api.ErrRank}, {square, 0, api.FNone, "", api.ErrArg}, {square, 0, 6, "", api.ErrArg}, {ints([]int{2}, api.MaxNum, 1), 0, api.FSum, "", api.ErrRange}, {ints([]int{2}, api.MaxNum, 1), 0, api.FScan, "", api.ErrRange},
	} {
		got, err := tensor.Reduce(x.t, x.axis, x.fold)
		if tensor.Format(got) != x.want || err != x.err || err != api.OK && !isZero(got) {
			t.Errorf("Reduce(%s, %d, %d) = %s, %v", tensor.Format(x.t), x.axis, x.fold, tensor.Format(got), err)
		}
	}
	// Fixed-point sums depend on the order: saturation comes first.
	sat := api.Tensor{Type: kfix, Dims: []int{3}, Vals: []api.Val{{N: 120, D: 1}, {N: 20, D: 1}, {N: -30, D: 1}}}
	sum, _ := tensor.Reduce(sat, 0, api.FSum)
	scan, _ := tensor.Reduce(sat, 0, api.FScan)
	if sum.Vals[0].N != 97 || scan.Vals[2] != sum.Vals[0] || scan.Vals[1].N != 127 {
		t.Error(sum, scan)
	}
	for axis := range 3 {
		x := count(2, 3, 4)
		sum, _ := tensor.Reduce(x, axis, api.FSum)
		scan, _ := tensor.Reduce(x, axis, api.FScan)
		last, _ := tensor.Slice(scan, axis, x.Dims[axis]-1, x.Dims[axis])
		if !slices.Equal(last.Vals, sum.Vals) {
			t.Errorf("axis %d: the last prefix sum is not the sum", axis)
		}
	}
}

func TestPermute(t *testing.T) {
	x := count(2, 3, 4)
	got, err := tensor.Permute(x, []int{2, 0, 1})
	if err != api.OK || !shape.Same(got.Dims, []int{4, 2, 3}) {
		t.Fatal(got, err)
	}
	for at := range x.Vals {
		p, _ := shape.Point(x.Dims, at)
		if v, _ := tensor.At(got, p[2], p[0], p[1]); v != x.Vals[at] {
			t.Errorf("%v: %v", p, v)
		}
	}
	if back, err := tensor.Permute(got, []int{1, 2, 0}); err != api.OK || !tensor.Same(back, x) {
		t.Error(back, err)
	}
	for _, order := range [][]int{{0, 1}, {0, 0, 1}, {0, 1, 3}, nil} {
		if got, err := tensor.Permute(x, order); !isZero(got) || err != api.ErrArg {
			t.Errorf("Permute(%v) = %v, %v", order, got, err)
		}
	}
	if got, _ := tensor.Permute(square, []int{1, 0}); tensor.Format(got) != "[[1, 3], [2, 4]]" {
		t.Error(got)
	}
}

func TestSliceAndConcat(t *testing.T) {
	x := count(3, 4, 2)
	for axis := range 3 {
		for cut := 1; cut < x.Dims[axis]; cut++ {
			a, e1 := tensor.Slice(x, axis, 0, cut)
			b, e2 := tensor.Slice(x, axis, cut, x.Dims[axis])
			back, e3 := tensor.Concat(axis, a, b)
			if e1 != api.OK || e2 != api.OK || e3 != api.OK || !tensor.Same(back, x) || a.Dims[axis] != cut {
				t.Errorf("axis %d, cut %d: %v", axis, cut, back)
			}
		}
	}
	if got, err := tensor.Slice(x, 1, 1, 3); err != api.OK || tensor.Format(got) != "[[[2, 3], [4, 5]], [[10, 11], [12, 13]], [[18, 19], [20, 21]]]" {
		t.Error(tensor.Format(got), err)
	}
	for _, c := range []struct {
		axis, from, to int
		err            api.Errno
	}{{3, 0, 1, api.ErrRank}, {-1, 0, 1, api.ErrRank}, {0, 0, 4, api.ErrBounds}, {0, 2, 2, api.ErrBounds}, {0, -1, 2, api.ErrBounds}} {
		if got, err := tensor.Slice(x, c.axis, c.from, c.to); !isZero(got) || err != c.err {
			t.Errorf("Slice(%v) = %v, %v", c, got, err)
		}
	}
}

func TestConcatErrors(t *testing.T) {
	half := api.Tensor{Type: kfrac, Dims: []int{1}, Vals: []api.Val{{N: 1, D: 2}}}
	for _, x := range []struct {
		axis int
		l    []api.Tensor
		err  api.Errno
	}{
		{0, nil, api.ErrArg}, {0, []api.Tensor{square, half, {}}, api.ErrType}, {0, []api.Tensor{square, half}, api.ErrType}, {0, []api.Tensor{square, ints([]int{2}, 1, 2)}, api.ErrRank}, {0, []api.Tensor{square, ints([]int{2}, 1, 2), half}, api.ErrRank}, {2, []api.Tensor{square}, api.ErrRank}, {-1, []api.Tensor{square}, api.ErrRank}, {0, []api.Tensor{ints(nil, 1)}, api.ErrRank},
		{0, []api.Tensor{square, count(2, 3)}, api.ErrSize}, {5, []api.Tensor{square, count(2, 3)}, api.ErrRank}, {1, []api.Tensor{square, count(2, 3), count(3, 2)}, api.ErrSize}, {0, []api.Tensor{count(4000), count(97)}, api.ErrLimit}, {0, []api.Tensor{square, {Type: kint, Dims: []int{2, 2}}}, api.ErrArg},
	} {
		if got, err := tensor.Concat(x.axis, x.l...); !isZero(got) || err != x.err {
			t.Errorf("Concat(%d, %v) = %v, %v", x.axis, x.l, got, err)
		}
	}
	if got, err := tensor.Concat(0, count(4000), count(96)); err != api.OK || len(got.Vals) != 4096 {
		t.Error(err)
	}
	if got, err := tensor.Concat(1, square, count(2, 1), square); err != api.OK || tensor.Format(got) != "[[1, 2, 0, 1, 2], [3, 4, 1, 3, 4]]" {
		t.Error(tensor.Format(got), err)
	}
}

func TestText(t *testing.T) {
	for _, x := range []struct {
		t    api.Tensor
		want string
	}{{square, "[[1, 2], [3, 4]]"}, {ints(nil, -7), "-7"}, {ints([]int{1}, 5), "[5]"}, {api.Tensor{Type: kfix, Dims: []int{2}, Vals: []api.Val{{N: 24, D: 1}, {N: -16, D: 1}}}, "[3/2, -1]"}} {
		if got := tensor.Format(x.t); got != x.want {
			t.Errorf("Format = %q", got)
		}
	}
	if s := tensor.Format(count(4, 4, 4, 4, 4, 4)); strings.Count(s, "[") != 1+4+16+64+256+1024 || !strings.HasSuffix(s, "4095]]]]]]") {
		t.Error("a tensor with six axes")
	}
}

func TestSame(t *testing.T) {
	if !tensor.Same(api.Tensor{}, api.Tensor{Dims: []int{}}) || tensor.Same(square, ints([]int{4}, 1, 2, 3, 4)) || tensor.Same(square, ints([]int{2, 2}, 1, 2, 3, 5)) || tensor.Same(square, api.Tensor{Type: kfrac, Dims: square.Dims, Vals: square.Vals}) || !tensor.Same(square, ints([]int{2, 2}, 1, 2, 3, 4)) {
		t.Error("Same")
	}
}

func TestNoSharing(t *testing.T) {
	x := count(2, 2)
	y, _ := tensor.New(x.Type, x.Dims, x.Vals...)
	p, _ := tensor.Permute(x, []int{0, 1})
	s, _ := tensor.Slice(x, 0, 0, 2)
	c, _ := tensor.Concat(0, x)
	w, _ := tensor.Set(x, api.Val{N: 0, D: 1}, 0, 0)
	for _, z := range []api.Tensor{y, p, s, c, w} {
		z.Vals[3].N, z.Dims[0] = 77, 9
	}
	if !tensor.Same(x, count(2, 2)) {
		t.Error("a result shares memory with the argument")
	}
}
