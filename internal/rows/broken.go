package rows

import (
	"math"
	"strings"

	"cadenza/api"
)

// Broken are bits that are not valid, each for one reason.
func Broken() map[string]api.Bits {
	m := map[string]api.Bits{
		"a negative N":                   {N: -1},
		"a negative N with a byte":       {Bytes: []byte{0}, N: -1},
		"N -8":                           {N: -8},
		"the least N":                    {N: math.MinInt},
		"the greatest N":                 {N: math.MaxInt},
		"N MaxInt-6":                     {N: math.MaxInt - 6},
		"no byte for one bit":            {N: 1},
		"no byte for eight":              {Bytes: []byte{}, N: 8},
		"a byte for none":                {Bytes: []byte{0}, N: 0},
		"a byte too few":                 {Bytes: []byte{1}, N: 9},
		"a byte too many":                {Bytes: []byte{1, 0}, N: 8},
		"a byte of 0 too many":           {Bytes: []byte{255, 3, 0}, N: 10},
		"bytes only behind the length":   {Bytes: []byte{1, 1}[:0], N: 16},
		"a 1 just behind":                {Bytes: []byte{2}, N: 1},
		"a 1 at the end":                 {Bytes: []byte{128}, N: 7},
		"a 1 behind in the second":       {Bytes: []byte{255, 8}, N: 11},
		"a bit more than MaxBits":        {Bytes: make([]byte, api.MaxBits/8+1), N: api.MaxBits + 1},
		"a byte more than MaxBits":       {Bytes: make([]byte, api.MaxBits/8+1), N: api.MaxBits + 8},
		"MaxBits and a byte too many":    {Bytes: make([]byte, api.MaxBits/8+1), N: api.MaxBits},
		"MaxBits and a byte too few":     {Bytes: make([]byte, api.MaxBits/8-1), N: api.MaxBits},
		"far more than MaxBits":          {Bytes: make([]byte, api.MaxBits), N: 8 * api.MaxBits},
		"N beyond 32 bits, else N 8":     {Bytes: []byte{0}, N: 1<<32 + 8},
		"nothing, and N of a whole byte": {N: 256},
	}
	for n := 1; n < 8; n++ {
		m["ones behind "+strings.Repeat("i", n)] = api.Bits{Bytes: []byte{255}, N: n}
	}
	return m
}

// BadIndexes are less than 0; some would not be if they were cut to fewer bits, or something added to them.
func BadIndexes() []int {
	return []int{math.MinInt, math.MinInt + 1, math.MinInt + 48, -1 << 32, -64, -49, -48, -8, -2, -1}
}

// BrokenDuals are states of the code with two levels that are not valid, most of them in one part alone.
func BrokenDuals() []api.Dual {
	// Some would be valid if they were cut to fewer bits, or their sign lost.
	ks := []int{math.MinInt, math.MinInt + 10, -1 << 32, -256, -246, -24, -10, -1, 25, 26, 31, 32, 63, 64, 65, 128, 255, 256, 266, 1 << 16, 1 << 32, 1<<32 + 10, math.MaxInt - 1, math.MaxInt}
	// Some would be valid if they were cut to fewer bits, or were numbers with a sign.
	sums := []uint64{MaxSum + 1, MaxSum + 2, 1 << 37, 1<<37 + 16384, 1 << 40, 1 << 63, 1<<63 + 16384, math.MaxUint64 - 1, math.MaxUint64}
	var l []api.Dual
	for _, d := range []api.Dual{{}, Start(), {K0: 24, K1: 24, Sum0: MaxSum, Sum1: MaxSum}} {
		for _, k := range ks {
			l = append(l, api.Dual{K0: k, K1: d.K1, Sum0: d.Sum0, Sum1: d.Sum1}, api.Dual{K0: d.K0, K1: k, Sum0: d.Sum0, Sum1: d.Sum1})
		}
		for _, sum := range sums {
			l = append(l, api.Dual{K0: d.K0, K1: d.K1, Sum0: sum, Sum1: d.Sum1}, api.Dual{K0: d.K0, K1: d.K1, Sum0: d.Sum0, Sum1: sum})
		}
	}
	return append(l, api.Dual{K0: -1, K1: 25, Sum0: MaxSum + 1, Sum1: math.MaxUint64})
}
