package liveness_test

import (
	"math"
	"slices"
	"testing"

	"brocade/api"
	"brocade/liveness"
	"brocade/nesttext"
)

func life(name string, from, to, size int) api.Lifetime {
	return api.Lifetime{Name: name, From: from, To: to, Size: size}
}

func TestAnalyze(t *testing.T) {
	const bufs = "a: frac[2] in; t: frac[2, 3] temp; u: int[2] temp; o: frac[] out; z: frac[4] temp; "
	for _, x := range []struct {
		s    string
		want []api.Lifetime
		err  api.Errno
	}{
		{"for i < 2 { t[i, 0] = a[0] }; u[0] = int(1); o[] = t[u[0], 0]", []api.Lifetime{life("a", 0, 0, 2), life("t", 0, 2, 6), life("u", 1, 2, 2), life("o", 2, 2, 1), life("z", 0, 0, 4)}, 0}, {"", []api.Lifetime{life("a", 0, 0, 2), life("t", 0, 0, 6), life("u", 0, 0, 2), life("o", 0, 0, 1), life("z", 0, 0, 4)}, 0}, {"u[0] = int(1); z[u[1]] sum= frac(1); for i < 2 { if [i] < [1] { if a[i] < z[0] { o[] = frac(2) } } }; t[0, 0] = frac(1); u[1] = int(1)", []api.Lifetime{life("a", 0, 2, 2), life("t", 3, 3, 6), life("u", 0, 4, 2), life("o", 2, 4, 1), life("z", 1, 2, 4)}, 0}, {"o[] = q[]", nil, api.ErrNotFound},
	} {
		n, ok := nesttext.Parse(bufs + x.s)
		got, err := liveness.Analyze(n)
		if !ok || !slices.Equal(got, x.want) || err != x.err {
			t.Errorf("Analyze(%q) = %v, %v", x.s, got, err)
		}
		if liveness.Validate(got) != api.OK {
			t.Errorf("%v must be valid", got)
		}
	}
	n, _ := nesttext.Parse("a: frac[] in; t: frac[] temp; u: frac[] temp; o: frac[] out; t[] = a[]; u[] = t[]; o[] = u[]")
	l, _ := liveness.Analyze(n)
	if !slices.Equal(l, []api.Lifetime{life("a", 0, 0, 1), life("t", 0, 1, 1), life("u", 1, 2, 1), life("o", 2, 2, 1)}) || liveness.MaxLive(l) != 2 {
		t.Error(l)
	}
}

func TestOverlapAndMaxLive(t *testing.T) {
	for a := range 5 {
		for b := range 5 {
			for c := range 5 {
				for d := range 5 {
					x, y := life("x", a, b, 1), life("y", c, d, 1)
					if got := liveness.Overlap(x, y); got != (a <= d && c <= b) {
						t.Errorf("Overlap(%v, %v) = %v", x, y, got)
					}
					for _, l := range [][]api.Lifetime{{x, y}, {x, y, life("z", 2, 3, 1)}, {x, x, y}} {
						most := 0
						for at := range 6 {
							count := 0
							for _, z := range l {
								if z.From <= at && at <= z.To {
									count++
								}
							}
							most = max(most, count)
						}
						if got := liveness.MaxLive(l); got != most {
							t.Errorf("MaxLive(%v) = %d; want %d", l, got, most)
						}
					}
				}
			}
		}
	}
	if liveness.MaxLive(nil) != 0 || liveness.MaxLive([]api.Lifetime{life("", math.MinInt, math.MaxInt, 0), life("", math.MaxInt, math.MaxInt, 0), life("", -5, -7, 0)}) != 2 {
		t.Error("MaxLive")
	}
}

func TestValidate(t *testing.T) {
	for _, x := range []struct {
		l   []api.Lifetime
		err api.Errno
	}{{nil, 0}, {[]api.Lifetime{life("a", 0, 0, 1), life("b", 0, 9, 4096)}, 0}, {[]api.Lifetime{life("a", 0, 0, 1), life("A", -1, 0, 1)}, api.ErrName}, {[]api.Lifetime{life("a", 0, 0, 1), life("a", -1, 0, 1)}, api.ErrDuplicate}, {[]api.Lifetime{life("a", -1, 0, 1)}, api.ErrArg}, {[]api.Lifetime{life("a", 1, 0, 1)}, api.ErrArg}, {[]api.Lifetime{life("a", 0, 0, 0)}, api.ErrArg}, {[]api.Lifetime{life("a", 0, 0, 4097)}, api.ErrArg}, {[]api.Lifetime{life("a", 0, 0, 0), life("", 0, 0, 0)}, api.ErrArg}} {
		if err := liveness.Validate(x.l); err != x.err {
			t.Errorf("Validate(%v) = %v", x.l, err)
		}
	}
}
