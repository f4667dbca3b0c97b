package plant_test

import (
	"math"
	"math/big"
	"math/rand"
	"slices"
	"testing"

	"massecuite/api"
	"massecuite/plant"
)

// P10.5: example 2, and other shares by hand.
func TestShare(t *testing.T) {
	many := slices.Repeat([]int{1 << 30}, 20)
	for _, x := range []struct {
		c           int
		loads, want []int
	}{
		{10, []int{1, 1, 1}, []int{4, 3, 3}},
		{1, []int{0, 1, 1}, []int{0, 1, 0}},
		{0, []int{1}, []int{0}},
		{0, []int{0, 5, 2}, []int{0, 0, 0}},
		{1, []int{1}, []int{1}},
		{999999, []int{1}, []int{999999}},
		{999999, []int{0, 1 << 30, 0}, []int{0, 999999, 0}},
		{7, []int{1, 2, 4}, []int{1, 2, 4}},
		{8, []int{1, 2, 4}, []int{1, 2, 5}}, // rests 1/7, 2/7, 4/7
		{9, []int{1, 2, 4}, []int{1, 3, 5}}, // 2/7, 4/7, 1/7
		{6, []int{1, 2, 4}, []int{1, 2, 3}}, // 6/7, 5/7, 3/7
		{5, []int{2, 2, 0, 2}, []int{2, 2, 0, 1}},
		{3, []int{0, 1, 1, 0, 1, 1}, []int{0, 1, 1, 0, 1, 0}},
		{19, many, slices.Concat(slices.Repeat([]int{1}, 19), []int{0})},
		{999999, many, slices.Concat(slices.Repeat([]int{50000}, 19), []int{49999})},
		{1, []int{1<<30 - 1, 1 << 30}, []int{0, 1}},
		{1, []int{1 << 30, 1<<30 - 1}, []int{1, 0}},
		{2, []int{1, 1 << 30}, []int{0, 2}},
		{999999, []int{1, 1 << 30}, []int{0, 999999}},
		{2, []int{10, 11, 12}, []int{0, 1, 1}}, // 20/33, 22/33, 24/33
	} {
		got, e := plant.Share(x.c, x.loads)
		if e != api.OK || !slices.Equal(got, x.want) {
			t.Error(x.c, x.loads, got, e)
		}
	}
}

// P10.5: c -1, 1,000,000 and beyond; no loads, and 21 of them; loads -1, 2^30 + 1
// and beyond; all of them 0.
func TestNoShares(t *testing.T) {
	good := []int{1, 2}
	for _, c := range []int{-1, 1000000, math.MinInt, math.MaxInt, 1 << 32} {
		if got, e := plant.Share(c, good); len(got) != 0 || e != api.ErrArg {
			t.Error(c, got, e)
		}
	}
	for _, loads := range [][]int{nil, {}, {0}, {0, 0}, make([]int, 20), make([]int, 21), slices.Repeat([]int{1}, 21), slices.Repeat([]int{1}, 1e6), {-1}, {1, -1}, {-1, 1}, {-1, 0}, {1<<30 + 1}, {1, 1<<30 + 1}, {1<<30 + 1, 1}, {math.MinInt}, {5, math.MinInt}, {math.MaxInt}, {math.MaxInt, math.MaxInt}, {math.MinInt, math.MaxInt}, {1 << 62, 1 << 62, 1 << 62, 1 << 62}, {2, -2}} {
		for _, c := range []int{0, 1, 999999, -1} {
			if got, e := plant.Share(c, loads); len(got) != 0 || e != api.ErrArg {
				t.Error(c, loads, got, e)
			}
		}
	}
	for _, loads := range [][]int{{1}, {1 << 30}, {0, 1}, append(make([]int, 19), 1)} {
		for _, c := range []int{0, 1, 999999} {
			if _, e := plant.Share(c, loads); e != api.OK {
				t.Error(c, loads, e)
			}
		}
	}
}

// fair fails unless the shares are those of the model, and as P10.9 says.
func fair(t *testing.T, c int, loads []int) {
	t.Helper()
	got, e := plant.Share(c, loads)
	if e != api.OK || !slices.Equal(got, shared(c, loads)) {
		t.Fatal(c, loads, got, e)
	}
	all := 0
	one := big.NewRat(1, 1)
	for k, x := range got {
		all += x
		off := new(big.Rat).Sub(big.NewRat(int64(x), 1), exact(c, loads, k))
		if off.Abs(off).Cmp(one) >= 0 {
			t.Fatal(c, loads, got)
		}
		for l, y := range got {
			if loads[k] > loads[l] && x < y {
				t.Fatal(c, loads, got)
			}
		}
	}
	if all != c {
		t.Fatal(c, loads, got)
	}
}

// P10.9: all small shares, and drawn ones.
func TestFairShares(t *testing.T) {
	for a := range 5 {
		for b := range 5 {
			for x := range 5 {
				for c := range 15 {
					if a+b+x > 0 {
						fair(t, c, []int{a, b, x})
						fair(t, c, []int{a, 0, b, x, b})
					}
				}
			}
		}
	}
	r := rand.New(rand.NewSource(5))
	for range 4000 {
		loads := make([]int, 1+r.Intn(20))
		most := []int{2, 4, 100, 1000000, 1<<30 + 1}[r.Intn(5)]
		for k := range loads {
			loads[k] = r.Intn(most) * r.Intn(3) % most
		}
		loads[r.Intn(len(loads))] = most - 1
		fair(t, []int{r.Intn(5), r.Intn(30), r.Intn(1000), r.Intn(1000000), 999999}[r.Intn(5)], loads)
	}
}
