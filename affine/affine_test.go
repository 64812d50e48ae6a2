package affine_test

import (
	"math"
	"slices"
	"testing"

	"brocade/affine"
	"brocade/api"
	"brocade/box"
	"brocade/lin"
)

func form(k int64, l ...any) api.Lin {
	f := api.Lin{K: k}
	for i := 0; i < len(l); i += 2 {
		f.L = append(f.L, api.Mono{Name: l[i].(string), By: int64(l[i+1].(int))})
	}
	return f
}

func forms(l ...api.Lin) []api.Lin { return l }

var (
	ij   = []string{"i", "j"}
	huge = forms(form(0, "i", math.MaxInt64))
)

func TestValidate(t *testing.T) {
	names := []string{"a", "b", "c", "d", "e", "f", "g", "h", "i", "j", "k", "l", "m", "n", "o", "p"}
	for _, x := range []struct {
		m     []api.Lin
		names []string
		err   api.Errno
	}{
		{nil, nil, 0}, {forms(form(3)), nil, 0}, {forms(form(3, "i", 1)), ij, 0}, {make([]api.Lin, 16), names, 0}, {make([]api.Lin, 17), []string{""}, api.ErrLimit}, {nil, append(slices.Clone(names), "q"), api.ErrLimit},
		{forms(form(0, "i", 0)), []string{"i", "sum"}, api.ErrName}, {nil, []string{""}, api.ErrName}, {nil, []string{"i", "i", "9"}, api.ErrDuplicate}, {nil, []string{"9", "i", "i"}, api.ErrName}, {forms(form(0, "i", 0)), ij, api.ErrArg}, {forms(form(0, "i", 0)), []string{"i", "i"}, api.ErrDuplicate},
		{forms(form(0, "k", 1), form(0, "i", 0)), ij, api.ErrNotFound}, {forms(form(0, "j", 1, "i", 1), form(0, "k", 1)), ij, api.ErrArg}, {forms(form(0, "i", 1)), nil, api.ErrNotFound},
	} {
		if err := affine.Validate(x.m, x.names); err != x.err {
			t.Errorf("Validate(%v, %v) = %v", x.m, x.names, err)
		}
		if x.err == api.OK {
			continue
		}
		_, e1 := affine.Apply(x.m, x.names, []int{1, 2, 3})
		_, e2 := affine.Compose(x.m, x.names, forms(form(0, "i", 0)))
		_, _, e3 := affine.FirstPreimage(x.m, x.names, []int{-1}, nil)
		_, e4 := affine.Injective(x.m, x.names, []int{-1})
		_, _, _, e5 := affine.FirstCollision(x.m, nil, x.names, []int{-1})
		_, e6 := affine.Image(x.m, x.names, []int{-1})
		for i, e := range []api.Errno{e1, e2, e3, e4, e5, e6} {
			if e != x.err {
				t.Errorf("%v, %v: call %d returns %v", x.m, x.names, i, e)
			}
		}
	}
}

func TestApply(t *testing.T) {
	for _, x := range []struct {
		m    []api.Lin
		p    []int
		want []int64
		err  api.Errno
	}{
		{forms(form(0, "i", 2, "j", 1), form(3)), []int{1, 2}, []int64{4, 3}, 0}, {nil, []int{1, 2}, nil, 0}, {forms(form(0)), []int{1}, nil, api.ErrRank}, {forms(form(0)), nil, nil, api.ErrRank}, {forms(form(0)), []int{1, 2, 3}, nil, api.ErrRank},
		{huge, []int{2, 0}, nil, api.ErrRange}, {forms(form(0, "i", math.MaxInt64, "j", math.MaxInt64)), []int{5, -4}, []int64{math.MaxInt64}, 0},
	} {
		if got, err := affine.Apply(x.m, ij, x.p); !slices.Equal(got, x.want) || err != x.err {
			t.Errorf("Apply(%v, %v) = %v, %v", x.m, x.p, got, err)
		}
	}
}

func TestCompose(t *testing.T) {
	m := forms(form(1, "i", 1), form(0, "i", 1, "j", -1))
	for _, x := range []struct {
		m, next, want []api.Lin
		err           api.Errno
	}{
		{m, forms(form(0, "i", 1, "j", 2)), forms(form(1, "i", 3, "j", -2)), 0}, {m, forms(form(7), form(0, "j", 1)), forms(form(7), form(0, "i", 1, "j", -1)), 0}, {m, nil, nil, 0},
		{m, forms(form(0, "k", 1)), nil, api.ErrNotFound}, {m[:1], forms(form(0, "i", 0)), nil, api.ErrArg}, {m[:1], forms(form(0, "i", 1)), nil, api.ErrRank}, {nil, nil, nil, api.ErrRank},
		{forms(form(0, "i", math.MaxInt64), form(0)), forms(form(0, "i", 2)), nil, api.ErrRange}, {m, forms(form(math.MaxInt64, "i", 1)), nil, api.ErrRange}, {forms(form(0, "i", math.MaxInt64), form(0, "i", math.MaxInt64)), forms(form(0, "i", 1, "j", 1)), nil, api.ErrRange},
	} {
		got, err := affine.Compose(x.m, ij, x.next)
		if !slices.EqualFunc(got, x.want, lin.Same) || err != x.err {
			t.Errorf("Compose(%v, %v) = %v, %v", x.m, x.next, got, err)
		}
	}
}

func TestBoxErrors(t *testing.T) {
	one := forms(form(0, "i", 1))
	for _, x := range []struct {
		m   []api.Lin
		ext []int
		to  []int64
		err api.Errno
	}{{one, []int{-1}, nil, api.ErrArg}, {one, []int{70000}, nil, api.ErrLimit}, {one, []int{2}, []int64{0}, api.ErrRank}, {one, []int{2, 2, 2}, []int64{0}, api.ErrRank}, {huge, []int{3, 1}, []int64{-1}, api.ErrRange}} {
		p, f1, e1 := affine.FirstPreimage(x.m, ij, x.ext, x.to)
		b, e2 := affine.Injective(x.m, ij, x.ext)
		c, d, f2, e3 := affine.FirstCollision(x.m, x.m, ij, x.ext)
		l, e4 := affine.Image(x.m, ij, x.ext)
		for i, e := range []api.Errno{e1, e2, e3, e4} {
			if e != x.err {
				t.Errorf("%v on %v: call %d returns %v", x.m, x.ext, i, e)
			}
		}
		if len(p)+len(c)+len(d)+len(l) != 0 || f1 || f2 || b {
			t.Errorf("%v: results beside an error", x)
		}
	}
	if _, _, err := affine.FirstPreimage(one, ij, []int{2, 2}, nil); err != api.ErrRank {
		t.Error(err)
	}
	if _, _, _, err := affine.FirstCollision(one, nil, ij, []int{2, 2}); err != api.ErrRank {
		t.Error(err)
	}
	if _, _, _, err := affine.FirstCollision(one, forms(form(0, "k", 1)), ij, []int{-1}); err != api.ErrNotFound {
		t.Error(err)
	}
	// Points after the result are not evaluated; a collision needs all of them.
	if p, ok, err := affine.FirstPreimage(huge, ij, []int{3, 1}, []int64{math.MaxInt64}); !slices.Equal(p, []int{1, 0}) || !ok || err != api.OK {
		t.Error(p, ok, err)
	}
	for _, x := range [][2][]api.Lin{{huge, forms(form(0))}, {forms(form(0)), huge}} {
		if _, _, _, err := affine.FirstCollision(x[0], x[1], ij, []int{3, 1}); err != api.ErrRange {
			t.Error(err)
		}
	}
}

// TestByBruteForce compares all functions with their definitions on small boxes.
func TestByBruteForce(t *testing.T) {
	var maps [][]api.Lin
	for _, a := range []int{-2, 1, 3} {
		for _, b := range []int{-1, 1, 2} {
			maps = append(maps, forms(form(1, "i", a, "j", b)), forms(form(0, "i", a), form(0, "i", 1, "j", b)), forms(form(0, "j", b)))
		}
	}
	maps = append(maps, nil, forms(form(4)), forms(form(0), form(0, "i", 1)))
	for _, ext := range [][]int{{2, 3}, {3, 2}, {1, 4}, {0, 2}} {
		for _, a := range maps {
			var points [][]int
			var images [][]int64
			for p := range box.All(ext) {
				to, _ := affine.Apply(a, ij, p)
				points, images = append(points, p), append(images, to)
			}
			checkOne(t, a, ext, points, images)
			for _, b := range maps {
				if len(a) != len(b) {
					continue
				}
				checkCollision(t, a, b, ext, points, images)
			}
		}
	}
}

func checkOne(t *testing.T, m []api.Lin, ext []int, points [][]int, images [][]int64) {
	t.Helper()
	sorted := slices.Clone(images)
	slices.SortFunc(sorted, slices.Compare)
	sorted = slices.CompactFunc(sorted, slices.Equal)
	got, err := affine.Image(m, ij, ext)
	if err != api.OK || !slices.EqualFunc(got, sorted, slices.Equal) {
		t.Errorf("Image(%v, %v) = %v, %v", m, ext, got, err)
	}
	if one, err := affine.Injective(m, ij, ext); one != (len(sorted) == len(points)) || err != api.OK {
		t.Errorf("Injective(%v, %v) = %v, %v", m, ext, one, err)
	}
	for x := int64(-9); x <= 9; x++ {
		to := make([]int64, len(m))
		for i := range to {
			to[i] = x * int64(i+1)
		}
		at := slices.IndexFunc(images, func(l []int64) bool { return slices.Equal(l, to) })
		p, ok, err := affine.FirstPreimage(m, ij, ext, to)
		if err != api.OK || ok != (at >= 0) || ok && !slices.Equal(p, points[at]) || !ok && len(p) != 0 {
			t.Errorf("FirstPreimage(%v, %v, %v) = %v, %v, %v", m, ext, to, p, ok, err)
		}
	}
}

func checkCollision(t *testing.T, a, b []api.Lin, ext []int, points [][]int, images [][]int64) {
	t.Helper()
	p, q, ok, err := affine.FirstCollision(a, b, ij, ext)
	for i, to := range images {
		for k := range points {
			other, _ := affine.Apply(b, ij, points[k])
			if slices.Equal(to, other) {
				if !ok || err != api.OK || !slices.Equal(p, points[i]) || !slices.Equal(q, points[k]) {
					t.Errorf("FirstCollision(%v, %v, %v) = %v, %v, %v, %v", a, b, ext, p, q, ok, err)
				}
				return
			}
		}
	}
	if ok || err != api.OK || len(p) != 0 || len(q) != 0 {
		t.Errorf("FirstCollision(%v, %v, %v) = %v, %v, %v, %v", a, b, ext, p, q, ok, err)
	}
}

func TestComposition(t *testing.T) {
	m := forms(form(1, "i", 2, "j", -1), form(0, "i", 1, "j", 1))
	next := forms(form(-2, "i", 3, "j", 5), form(1, "j", -1), form(9))
	both, err := affine.Compose(m, ij, next)
	if err != api.OK {
		t.Fatal(err)
	}
	for p := range box.All([]int{3, 4}) {
		mid, _ := affine.Apply(m, ij, p)
		want, _ := affine.Apply(next, ij, []int{int(mid[0]), int(mid[1])})
		if got, _ := affine.Apply(both, ij, p); !slices.Equal(got, want) {
			t.Errorf("%v goes to %v, not to %v", p, got, want)
		}
	}
}
