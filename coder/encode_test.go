package coder_test

import (
	"math"
	"slices"
	"strings"
	"testing"

	"cadenza/api"
	"cadenza/coder"
	"cadenza/internal/rows"
)

func TestP9_1Examples(t *testing.T) {
	ones := strings.Repeat("1", 48)
	for _, c := range []struct {
		l    []uint32
		code string
		d    api.Dual
	}{
		{nil, "", api.Dual{K0: 10, K1: 10, Sum0: 16384, Sum1: 16384}},
		{[]uint32{}, "", api.Dual{K0: 10, K1: 10, Sum0: 16384, Sum1: 16384}},
		{[]uint32{5}, "0" + "1010000000", api.Dual{K0: 9, K1: 10, Sum0: 15365, Sum1: 16384}},
		{[]uint32{2000}, "1" + "0" + "0000101111", api.Dual{K0: 10, K1: 9, Sum0: 17360, Sum1: 16336}},
		{[]uint32{5, 2000}, "0" + "1010000000" + "1" + "10" + "0000101110", api.Dual{K0: 10, K1: 10, Sum0: 16405, Sum1: 16848}},
		{[]uint32{2000, 5}, "1" + "0" + "0000101111" + "0" + "1010000000", api.Dual{K0: 9, K1: 9, Sum0: 16280, Sum1: 16336}},
		{[]uint32{0, 0, 0}, "0" + "0000000000" + "0" + "000000000" + "0" + "000000000", api.Dual{K0: 9, K1: 10, Sum0: 13500, Sum1: 16384}},
		{[]uint32{math.MaxUint32}, "1" + ones + "11111111110111111111111111111111", api.Dual{K0: 11, K1: 11, Sum0: 4294982655, Sum1: 4294981631}},
	} {
		if b, e := coder.Encode(c.l); e != api.OK || !rows.Same(b, rows.Bits(c.code)) {
			t.Errorf("Encode(%v) = %v, %d; want %s", c.l, b, e, c.code)
		}
		if d, e := coder.After(c.l); e != api.OK || d != c.d {
			t.Errorf("After(%v) = %v, %d; want %v", c.l, d, e, c.d)
		}
	}
}

func TestP9_1ShortLists(t *testing.T) {
	for _, l := range rows.ShortLists() {
		wantEncoded(t, l)
	}
}

func TestP9_1LongLists(t *testing.T) {
	for _, l := range rows.LongLists() {
		wantEncoded(t, l)
	}
}

// However many numbers there are, each one is coded in its place.
func TestP9_1AllLengths(t *testing.T) {
	l := rows.Waves(8, 700, 90)
	for n := range l {
		wantEncoded(t, l[:n])
	}
	for n := 3990; n <= 4000; n++ {
		wantEncoded(t, rows.Waves(n, n, 500))
	}
}

func TestP9_1TooManyNumbers(t *testing.T) {
	for _, n := range rows.TooMany() {
		wantNotEncoded(t, make([]uint32, n), api.ErrMany)
		wantNotEncoded(t, slices.Repeat([]uint32{math.MaxUint32}, n), api.ErrMany)
	}
}
