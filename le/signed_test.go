package le_test

import (
	"fmt"
	"math"
	"testing"

	"cadenza/api"
	"cadenza/le"
)

func TestP1_3Ordinary(t *testing.T) {
	for _, c := range []struct {
		x int64
		w int
		n uint64
	}{
		{0, 1, 0}, {0, 8, 0},
		{1, 1, 1}, {5, 3, 5},
		{-1, 1, 255}, {-1, 2, 65535}, {-1, 8, math.MaxUint64},
		{-2, 1, 254}, {-2, 3, 16777214},
		{127, 1, 127}, {-128, 1, 128},
		{128, 2, 128}, {-129, 2, 65407},
		{-300, 2, 65236},
		{1 << 31, 5, 1 << 31}, {-1 << 31, 4, 1 << 31}, {-1 << 31, 5, 0xff80000000},
		{-1 << 55, 7, 1 << 55}, {-1 << 55, 8, 0xff80000000000000},
	} {
		n, e := le.Unsigned(c.x, c.w)
		wantNumber(t, fmt.Sprint("Unsigned ", c.x, " ", c.w), n, e, c.n, api.OK)
		x, e := le.Signed(c.n, c.w)
		wantSigned(t, fmt.Sprint("Signed ", c.n, " ", c.w), x, e, c.x, api.OK)
	}
}

func TestP1_3AtTheLimitsOfEachWidth(t *testing.T) {
	for w := 1; w <= 8; w++ {
		half := uint64(1) << (8*w - 1)
		all := uint64(math.MaxUint64) >> (64 - 8*w)
		greatest := int64(half - 1)
		smallest := -greatest - 1
		for x, n := range map[int64]uint64{0: 0, 1: 1, -1: all, greatest: half - 1, smallest: half} {
			got, e := le.Unsigned(x, w)
			wantNumber(t, fmt.Sprint("Unsigned ", x, " ", w), got, e, n, api.OK)
			back, e := le.Signed(n, w)
			wantSigned(t, fmt.Sprint("Signed ", n, " ", w), back, e, x, api.OK)
		}
		if w == 8 {
			continue
		}
		for _, x := range []int64{greatest + 1, smallest - 1, greatest + 2, smallest - 2, math.MaxInt64, math.MinInt64, int64(all), -int64(all), int64(all) + 1, -int64(all) - 1} {
			n, e := le.Unsigned(x, w)
			wantNumber(t, fmt.Sprint("Unsigned ", x, " ", w), n, e, 0, api.ErrRange)
		}
		for _, n := range []uint64{all + 1, all + 2, math.MaxUint64, 1 << 63} {
			x, e := le.Signed(n, w)
			wantSigned(t, fmt.Sprint("Signed ", n, " ", w), x, e, 0, api.ErrRange)
		}
	}
}

func TestP1_3UnsignedAgreesWithTheDefinition(t *testing.T) {
	for w := 1; w <= 8; w++ {
		for _, x := range signedNumbers() {
			n, e := le.Unsigned(x, w)
			what := fmt.Sprint("Unsigned ", x, " ", w)
			if signedFits(x, w) {
				wantNumber(t, what, n, e, complement(x, w), api.OK)
			} else {
				wantNumber(t, what, n, e, 0, api.ErrRange)
			}
		}
	}
}

func TestP1_3SignedAgreesWithTheDefinition(t *testing.T) {
	for w := 1; w <= 8; w++ {
		for _, n := range numbers() {
			x, e := le.Signed(n, w)
			if !unsignedFits(n, w) {
				wantSigned(t, fmt.Sprint("Signed ", n, " ", w), x, e, 0, api.ErrRange)
				continue
			}
			if e != api.OK || !signedFits(x, w) || complement(x, w) != n {
				t.Errorf("Signed(%d, %d) = %d, %d", n, w, x, e)
			}
		}
	}
}

func TestP1_3RefusesWidthsBeforeNumbers(t *testing.T) {
	for _, w := range badWidths {
		for _, n := range []uint64{0, 1, 255, 256, math.MaxUint64} {
			x, e := le.Signed(n, w)
			wantSigned(t, fmt.Sprint("Signed ", n, " ", w), x, e, 0, api.ErrArg)
		}
		for _, x := range []int64{0, 1, -1, 128, -129, math.MaxInt64, math.MinInt64} {
			n, e := le.Unsigned(x, w)
			wantNumber(t, fmt.Sprint("Unsigned ", x, " ", w), n, e, 0, api.ErrArg)
		}
	}
}
