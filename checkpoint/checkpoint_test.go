package checkpoint_test

import (
	"math"
	"testing"

	"brocade/api"
	"brocade/checkpoint"
)

func act(op, at, slot int) api.Action { return api.Action{Op: op, At: at, Slot: slot} }

// table is an oracle: the best cost over all first checkpoints.
func table() [65][65]int {
	var best [65][65]int
	for s := range 65 {
		for n := 2; n <= 64; n++ {
			best[s][n] = n * (n - 1) / 2
			for k := 1; k < n && s > 0; k++ {
				best[s][n] = min(best[s][n], k+best[s-1][n-k]+best[s][k])
			}
		}
	}
	return best
}

func TestCostAndPlan(t *testing.T) {
	best := table()
	for n := range 65 {
		for s := range 65 {
			c, err := checkpoint.Cost(n, s)
			if c != best[s][n] || err != api.OK {
				t.Fatalf("Cost(%d, %d) = %d, %v; want %d", n, s, c, err, best[s][n])
			}
			if s > 0 && c > best[s-1][n] || s >= n-1 && n > 0 && c != n-1 {
				t.Errorf("Cost(%d, %d) = %d", n, s, c)
			}
			l, err := checkpoint.Plan(n, s)
			got, err2 := checkpoint.CheckPlan(n, s, l)
			if err != api.OK || err2 != api.OK || got != c || checkpoint.Peak(l) > s {
				t.Fatalf("Plan(%d, %d): cost %d, %v, %v", n, s, got, err, err2)
			}
		}
	}
	for n := range 13 {
		for _, s := range []int{0, 1, 2, 3, 4, 5, 11, 64} {
			c, err := checkpoint.BruteForceCost(n, s)
			if c != best[s][n] || err != api.OK {
				t.Errorf("BruteForceCost(%d, %d) = %d, %v", n, s, c, err)
			}
		}
	}
	if c, _ := checkpoint.Cost(10, 3); c != 14 {
		t.Error(c)
	}
}

func TestArguments(t *testing.T) {
	for _, x := range [][2]int{{-1, 0}, {0, -1}, {65, 0}, {0, 65}, {math.MinInt, 3}, {3, math.MaxInt}} {
		a, e1 := checkpoint.Cost(x[0], x[1])
		b, e2 := checkpoint.BruteForceCost(x[0], x[1])
		l, e3 := checkpoint.Plan(x[0], x[1])
		c, e4 := checkpoint.CheckPlan(x[0], x[1], make([]api.Action, api.MaxPoints+1))
		for i, e := range []api.Errno{e1, e2, e3, e4} {
			if e != api.ErrArg {
				t.Errorf("%v: call %d returns %v", x, i, e)
			}
		}
		if a != 0 || b != 0 || c != 0 || len(l) != 0 {
			t.Errorf("%v: results beside an error", x)
		}
	}
	if c, err := checkpoint.BruteForceCost(13, 64); c != 0 || err != api.ErrLimit {
		t.Error(c, err)
	}
	if c, err := checkpoint.BruteForceCost(13, 65); c != 0 || err != api.ErrArg {
		t.Error(c, err)
	}
}

func TestCheckPlan(t *testing.T) {
	const a, s, r, v = api.PAdvance, api.PStore, api.PRestore, api.PReverse
	good := []api.Action{act(a, 1, 0), act(s, 1, 0), act(a, 2, 0), act(v, 3, 0), act(r, 1, 0), act(v, 2, 0), act(r, 0, -1), act(v, 1, 0)}
	for k, x := range []struct {
		steps, slots int
		l            []api.Action
		at           int
		err          api.Errno
	}{
		{3, 1, good, 2, 0}, {3, 0, good, 1, api.ErrSchedule}, {3, 1, good[:7], 7, api.ErrEOF}, {0, 0, nil, 0, 0}, {2, 0, nil, 0, api.ErrEOF}, {3, 1, []api.Action{act(v, 2, 0)}, 0, api.ErrSchedule}, {1, 0, []api.Action{act(v, 1, 0), act(v, 0, 0)}, 1, api.ErrSchedule}, {1, 0, []api.Action{act(v, 1, 0), act(a, 1, 0)}, 1, 0}, {1, 0, []api.Action{act(v, 1, 0), act(a, 1, 0), act(a, 2, 0)}, 2, api.ErrSchedule},
		{2, 1, []api.Action{act(a, 2, 0)}, 0, api.ErrSchedule}, {2, 1, []api.Action{act(a, 1, 1)}, 0, api.ErrSchedule}, {2, 1, []api.Action{act(a, 1, 0), act(v, 2, 1)}, 1, api.ErrSchedule}, {2, 1, []api.Action{act(s, 1, 0)}, 0, api.ErrSchedule}, {2, 1, []api.Action{act(s, 0, 1)}, 0, api.ErrSchedule}, {2, 1, []api.Action{act(s, 0, -1)}, 0, api.ErrSchedule}, {2, 1, []api.Action{act(r, 0, 0)}, 0, api.ErrSchedule}, {2, 1, []api.Action{act(r, -1, 0)}, 0, api.ErrSchedule}, {2, 1, []api.Action{act(r, 0, -1), act(r, 1, -1)}, 1, api.ErrSchedule}, {2, 1, []api.Action{act(r, 0, -2)}, 0, api.ErrSchedule}, {2, 1, []api.Action{act(s, 0, 0), act(a, 1, 0), act(r, 0, 0), act(r, 1, 0)}, 3, api.ErrSchedule}, {2, 1, []api.Action{act(a, 1, 0), act(s, 1, 0), act(r, 0, -1), act(s, 0, 0), act(r, 1, 0)}, 4, api.ErrSchedule}, {2, 1, []api.Action{act(0, 0, 0)}, 0, api.ErrSchedule}, {2, 1, []api.Action{act(5, 0, 0)}, 0, api.ErrSchedule}, {2, 64, []api.Action{act(s, 0, 63), act(s, 0, 64)}, 1, api.ErrSchedule},
		{1, 0, make([]api.Action, api.MaxPoints), 0, api.ErrSchedule}, {1, 0, make([]api.Action, api.MaxPoints+1), 0, api.ErrLimit},
	} {
		if at, err := checkpoint.CheckPlan(x.steps, x.slots, x.l); at != x.at || err != x.err {
			t.Errorf("case %d: %d, %v; want %d, %v", k, at, err, x.at, x.err)
		}
	}
	if n := checkpoint.Peak([]api.Action{act(s, 1, 5), act(s, 9, 5), act(s, 1, -7), act(r, 1, 3), act(99, 0, 8)}); n != 2 || checkpoint.Peak(nil) != 0 {
		t.Error(n)
	}
}
