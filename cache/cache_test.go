package cache_test

import (
	"math"
	"slices"
	"strconv"
	"testing"

	"brocade/api"
	"brocade/cache"
)

func TestNew(t *testing.T) {
	for _, most := range []int{0, -1, 1025, math.MaxInt, math.MinInt} {
		if c, err := cache.New[int](most); c != nil || err != api.ErrArg {
			t.Errorf("New(%d) = %v, %v", most, c, err)
		}
	}
	for _, most := range []int{1, 2, 1024} {
		c, err := cache.New[string](most)
		if err != api.OK || c.Len() != 0 || len(c.Keys()) != 0 {
			t.Fatalf("New(%d): %v", most, err)
		}
		for i := range 1030 {
			if evicted := c.Put(strconv.Itoa(i), "v"); evicted != (i >= most) || c.Len() != min(i+1, most) {
				t.Fatalf("capacity %d: entry %d: %v, %d", most, i, evicted, c.Len())
			}
		}
	}
}

func TestExample(t *testing.T) {
	c, _ := cache.New[int](2)
	c.Put("a", 1)
	c.Put("b", 2)
	if v, ok := c.Get("a"); v != 1 || !ok {
		t.Error(v, ok)
	}
	if !c.Put("c", 3) || !slices.Equal(c.Keys(), []string{"c", "a"}) {
		t.Error(c.Keys())
	}
	if h, m := c.Stats(); h != 1 || m != 0 {
		t.Error(h, m)
	}
	if v, ok := c.Get("b"); v != 0 || ok {
		t.Error(v, ok)
	}
	if h, m := c.Stats(); h != 1 || m != 1 {
		t.Error(h, m)
	}
	if c.Put("a", 9) || !slices.Equal(c.Keys(), []string{"a", "c"}) {
		t.Error(c.Keys())
	}
	if v, _ := c.Get("a"); v != 9 || !c.Remove("a") || c.Remove("a") || c.Len() != 1 || c.Put("", 5) {
		t.Error("Remove")
	}
	keys := c.Keys()
	keys[0] = "q"
	if !slices.Equal(c.Keys(), []string{"", "c"}) {
		t.Error("Keys shares memory")
	}
}

func TestUnusable(t *testing.T) {
	for _, c := range []*cache.Cache[int]{nil, {}} {
		v, ok := c.Get("a")
		h, m := c.Stats()
		if c.Put("a", 1) || v != 0 || ok || c.Remove("a") || c.Keys() != nil || c.Len() != 0 || h != 0 || m != 0 {
			t.Error("a cache that New did not make")
		}
	}
}

// TestModel compares with a list of entries in the order of use.
func TestModel(t *testing.T) {
	seed := uint64(6)
	next := func(n int) int {
		seed = seed*6364136223846793005 + 1442695040888963407
		return int(seed>>33) % n
	}
	type pair struct {
		key string
		v   int
	}
	for most := 1; most <= 5; most++ {
		c, _ := cache.New[int](most)
		var l []pair
		hits, misses := 0, 0
		for round := range 2000 {
			key := strconv.Itoa(next(8))
			at := slices.IndexFunc(l, func(p pair) bool { return p.key == key })
			switch next(6) {
			case 0:
				if c.Remove(key) != (at >= 0) {
					t.Fatal("Remove")
				}
				if at >= 0 {
					l = slices.Delete(l, at, at+1)
				}
			case 1, 2:
				v, ok := c.Get(key)
				if ok != (at >= 0) || ok && v != l[at].v || !ok && v != 0 {
					t.Fatal("Get")
				}
				misses++
				if at >= 0 {
					misses--
					hits++
					p := l[at]
					l = append([]pair{p}, slices.Delete(l, at, at+1)...)
				}
			default:
				if at >= 0 {
					l = slices.Delete(l, at, at+1)
				}
				l = append([]pair{{key, round}}, l...)
				if c.Put(key, round) != (len(l) > most) {
					t.Fatal("Put")
				}
				l = l[:min(len(l), most)]
			}
			var keys []string
			for _, p := range l {
				keys = append(keys, p.key)
			}
			h, m := c.Stats()
			if !slices.Equal(c.Keys(), keys) || c.Len() != len(l) || h != hits || m != misses {
				t.Fatalf("%v; want %v", c.Keys(), keys)
			}
		}
	}
}
