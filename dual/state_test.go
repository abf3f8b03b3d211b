package dual_test

import (
	"math"
	"testing"

	"cadenza/api"
	"cadenza/dual"
	"cadenza/internal/rows"
)

func TestP8_1FirstState(t *testing.T) {
	if d := dual.Start(); d != first {
		t.Errorf("Start() = %v", d)
	}
	if e := dual.Check(dual.Start()); e != api.OK {
		t.Errorf("Check of the first state: %d", e)
	}
}

func TestP8_1CheckOfValidStates(t *testing.T) {
	few := []uint64{0, 1, 16384, 1 << 32, rows.MaxSum - 1, rows.MaxSum}
	for k0 := range 25 {
		for k1 := range 25 {
			for _, sum0 := range few {
				for _, sum1 := range few {
					d := api.Dual{K0: k0, K1: k1, Sum0: sum0, Sum1: sum1}
					if e := dual.Check(d); e != api.OK {
						t.Fatalf("Check(%v): %d", d, e)
					}
				}
			}
		}
	}
}

func TestP8_1CheckOfOthers(t *testing.T) {
	for _, d := range rows.BrokenDuals() {
		if e := dual.Check(d); e != api.ErrBad {
			t.Errorf("Check(%v): %d", d, e)
		}
	}
}

func TestP8_1LearnExamples(t *testing.T) {
	for _, c := range []struct {
		d    api.Dual
		v    uint32
		want api.Dual
	}{
		{first, 5, api.Dual{K0: 9, K1: 10, Sum0: 15365, Sum1: 16384}},
		{first, 2000, api.Dual{K0: 10, K1: 9, Sum0: 17360, Sum1: 16336}},
		{first, 0, api.Dual{K0: 9, K1: 10, Sum0: 15360, Sum1: 16384}},
		// The greatest number below 2^K0, and that one: only the latter leaves something, and be it 0, to the second pair.
		{first, 1023, api.Dual{K0: 9, K1: 10, Sum0: 16383, Sum1: 16384}},
		{first, 1024, api.Dual{K0: 10, K1: 9, Sum0: 16384, Sum1: 15360}},
		{first, math.MaxUint32, api.Dual{K0: 11, K1: 11, Sum0: 4294982655, Sum1: 4294981631}},
		{api.Dual{}, 0, api.Dual{}},
		{api.Dual{}, 1, api.Dual{Sum0: 1}},
		{api.Dual{}, 32, api.Dual{Sum0: 32, Sum1: 31}},
		{api.Dual{}, 33, api.Dual{K0: 1, Sum0: 33, Sum1: 32}},
		{api.Dual{}, 34, api.Dual{K0: 1, K1: 1, Sum0: 34, Sum1: 33}},
		// A 16th, rounded down.
		{api.Dual{Sum0: 15, Sum1: 15}, 1, api.Dual{Sum0: 16, Sum1: 15}},
		{api.Dual{Sum0: 31, Sum1: 32}, 1, api.Dual{Sum0: 31, Sum1: 30}},
		// What is left is that of the K0 before, also if K0 changes.
		{api.Dual{K0: 3, K1: 2, Sum0: 300, Sum1: 64}, 20, api.Dual{K0: 4, K1: 2, Sum0: 302, Sum1: 72}},
		{api.Dual{K0: 3, K1: 2, Sum0: 16, Sum1: 64}, 9, api.Dual{K0: 2, K1: 1, Sum0: 24, Sum1: 61}},
		// The greatest K and Sums.
		{api.Dual{K0: 24, K1: 24, Sum0: rows.MaxSum, Sum1: rows.MaxSum}, math.MaxUint32, api.Dual{K0: 24, K1: 24, Sum0: rows.MaxSum, Sum1: rows.MaxSum - 1<<24}},
		{api.Dual{K0: 0, K1: 0, Sum0: rows.MaxSum, Sum1: rows.MaxSum}, math.MaxUint32, api.Dual{K0: 1, K1: 1, Sum0: rows.MaxSum, Sum1: rows.MaxSum - 1}},
		{api.Dual{K0: 24, K1: 24, Sum0: 268435455, Sum1: 7}, 0, api.Dual{K0: 23, K1: 24, Sum0: 251658240, Sum1: 7}},
	} {
		wantLearnt(t, c.d, c.v, c.want)
	}
}

// limits are Sums just at and beside those at which a K changes, and the K behind.
func limits(k int) map[uint64]int {
	less, more := max(k-1, 0), min(k+1, 24)
	return map[uint64]int{
		0:                      less,
		16*rows.Power(k) - 1:   less,
		16 * rows.Power(k):     k,
		16*rows.Power(k) + 1:   k,
		32*rows.Power(k) - 1:   k,
		32 * rows.Power(k):     k,
		32*rows.Power(k) + 1:   more,
		32*rows.Power(k) + 999: more,
	}
}

func TestP8_1LearnAtEachLimitOfTheFirstPair(t *testing.T) {
	for k := range 25 {
		for sum, want := range limits(k) {
			// From 0 on the number itself is the new Sum; from 16 on it is 15 less.
			x := mustLearn(t, api.Dual{K0: k, K1: 5, Sum0: 0, Sum1: 800}, uint32(sum))
			if x.K0 != want || x.Sum0 != sum {
				t.Errorf("K0 %d and the new Sum0 %d: %v; want K0 %d", k, sum, x, want)
			}
			if sum < 15 {
				continue
			}
			x = mustLearn(t, api.Dual{K0: k, K1: 5, Sum0: 16, Sum1: 800}, uint32(sum-15))
			if x.K0 != want || x.Sum0 != sum {
				t.Errorf("K0 %d, 16, and the new Sum0 %d: %v; want K0 %d", k, sum, x, want)
			}
		}
	}
}

func TestP8_1LearnAtEachLimitOfTheSecondPair(t *testing.T) {
	for k := range 25 {
		for sum, want := range limits(k) {
			for _, k0 := range someKs {
				d := api.Dual{K0: k0, K1: k, Sum0: 20 * rows.Power(k0), Sum1: 0}
				x := mustLearn(t, d, uint32(rows.Power(k0)+sum))
				if x.K1 != want || x.Sum1 != sum {
					t.Errorf("K0 %d, K1 %d and the new Sum1 %d: %v; want K1 %d", k0, k, sum, x, want)
				}
			}
		}
	}
}

func TestP8_1LearnTellsOnlyWhatIsLeftToTheSecondPair(t *testing.T) {
	for _, d := range append(states(), rows.AllKs()...) {
		least := uint32(rows.Power(d.K0))
		for _, v := range []uint32{0, 1, least / 2, least - 1} {
			if x := mustLearn(t, d, min(v, least-1)); x.K1 != d.K1 || x.Sum1 != d.Sum1 {
				t.Fatalf("Learn(%v, %d) = %v", d, v, x)
			}
		}
		for _, left := range []uint32{0, 1, 500, math.MaxUint32 - least} {
			if x := mustLearn(t, d, least+left); x.Sum1 != d.Sum1-d.Sum1/16+uint64(left) {
				t.Fatalf("Learn(%v, %d) = %v", d, least+left, x)
			}
		}
	}
}

func TestP8_1LearnInAllStates(t *testing.T) {
	for _, d := range append(states(), rows.AllKs()...) {
		for _, v := range rows.DualNumbers(d) {
			wantLearnt(t, d, v, rows.Behind(d, v))
		}
	}
}

func TestP8_1LearnManyNumbers(t *testing.T) {
	for seed := range 20 {
		d := dual.Start()
		for i, v := range rows.AllSizes(seed, 3000) {
			// Long stretches of small and of great numbers move both K far.
			v >>= (i / 500 * 7) % 32
			x := rows.Behind(d, v)
			wantLearnt(t, d, v, x)
			d = x
		}
	}
}

func TestP8_1LearnRefusesOtherStates(t *testing.T) {
	for _, d := range rows.BrokenDuals() {
		for _, v := range []uint32{0, 1, 1023, 1024, 1 << 31, math.MaxUint32} {
			if x, e := dual.Learn(d, v); e != api.ErrBad || x != (api.Dual{}) {
				t.Errorf("Learn(%v, %d) = %v, %d", d, v, x, e)
			}
		}
	}
}
