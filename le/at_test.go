package le_test

import (
	"fmt"
	"math"
	"testing"

	"cadenza/api"
	"cadenza/le"
)

func TestP1_2AtOrdinary(t *testing.T) {
	b := []byte{1, 2, 3, 4, 5, 6, 7, 8, 9, 250}
	for _, c := range []struct {
		at, w int
		want  uint64
	}{
		{0, 1, 1},
		{9, 1, 250},
		{2, 2, 1027},
		{0, 3, 0x030201},
		{3, 4, 0x07060504},
		{0, 8, 0x0807060504030201},
		{1, 8, 0x0908070605040302},
		{2, 8, 0xfa09080706050403},
		{8, 2, 250*256 + 9},
	} {
		n, e := le.At(b, c.at, c.w)
		wantNumber(t, fmt.Sprint("At ", c.at, " ", c.w), n, e, c.want, api.OK)
	}
}

func TestP1_2AtIsTheValueOfThePart(t *testing.T) {
	b := []byte{200, 1, 0, 255, 128, 127, 3, 99, 0, 0, 17, 254}
	for size := 0; size <= len(b); size++ {
		for at := range size + 3 {
			for w := 1; w <= 8; w++ {
				n, e := le.At(b[:size:size], at, w)
				what := fmt.Sprint("At of ", size, " bytes ", at, " ", w)
				if at+w > size {
					wantNumber(t, what, n, e, 0, api.ErrShort)
					continue
				}
				want, _ := le.Value(b[at : at+w])
				wantNumber(t, what, n, e, want, api.OK)
			}
		}
	}
}

func TestP1_2AtTheEndAndBeyond(t *testing.T) {
	b := []byte{1, 2, 3, 4, 5, 6, 7, 8}
	for w := 1; w <= 8; w++ {
		if _, e := le.At(b, 8-w, w); e != api.OK {
			t.Errorf("At(%d, %d): %d", 8-w, w, e)
		}
		for _, at := range []int{8 - w + 1, 8, 9, 16, 1 << 20, math.MaxInt - 8, math.MaxInt - w, math.MaxInt - w + 1, math.MaxInt} {
			n, e := le.At(b, at, w)
			wantNumber(t, fmt.Sprint("At ", at, " ", w), n, e, 0, api.ErrShort)
		}
	}
}

func TestP1_2AtOfNoBytes(t *testing.T) {
	for _, b := range [][]byte{nil, {}} {
		for w := 1; w <= 8; w++ {
			for _, at := range []int{0, 1, math.MaxInt} {
				n, e := le.At(b, at, w)
				wantNumber(t, fmt.Sprint("At of no bytes ", at, " ", w), n, e, 0, api.ErrShort)
			}
		}
	}
}

func TestP1_2AtLooksAtTheLengthNotTheCapacity(t *testing.T) {
	b := []byte{1, 2, 3, 4, 5, 6, 7, 8, 9, 10}[:4]
	n, e := le.At(b, 3, 1)
	wantNumber(t, "At of the last byte", n, e, 4, api.OK)
	for _, at := range []int{3, 4, 5} {
		n, e = le.At(b, at, 2)
		wantNumber(t, fmt.Sprint("At beyond the length ", at), n, e, 0, api.ErrShort)
	}
}

func TestP1_2AtRefusesIndicesAndWidthsFirst(t *testing.T) {
	long := make([]byte, 300)
	for _, b := range [][]byte{nil, {1}, {1, 2, 3, 4, 5, 6, 7, 8, 9}, long} {
		for _, at := range []int{-1, -2, -8, -9, -256, math.MinInt, math.MinInt + 1} {
			for _, w := range []int{1, 2, 4, 8, 0, 9, -1} {
				n, e := le.At(b, at, w)
				wantNumber(t, fmt.Sprint("At ", at, " ", w), n, e, 0, api.ErrArg)
			}
		}
		for _, w := range badWidths {
			for _, at := range []int{0, 1, 9, 1000, math.MaxInt, -1} {
				n, e := le.At(b, at, w)
				wantNumber(t, fmt.Sprint("At ", at, " ", w), n, e, 0, api.ErrArg)
			}
		}
	}
}
