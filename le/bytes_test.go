package le_test

import (
	"bytes"
	"fmt"
	"math"
	"testing"

	"cadenza/api"
	"cadenza/le"
)

func TestP1_1BytesOrdinary(t *testing.T) {
	for _, c := range []struct {
		n    uint64
		w    int
		want []byte
	}{
		{258, 2, []byte{2, 1}},
		{258, 3, []byte{2, 1, 0}},
		{0, 1, []byte{0}},
		{0, 8, []byte{0, 0, 0, 0, 0, 0, 0, 0}},
		{7, 1, []byte{7}},
		{0x54544131, 4, []byte("1ATT")},
		{0x0807060504030201, 8, []byte{1, 2, 3, 4, 5, 6, 7, 8}},
		{0xfa, 8, []byte{0xfa, 0, 0, 0, 0, 0, 0, 0}},
		{0x07060504030201, 7, []byte{1, 2, 3, 4, 5, 6, 7}},
	} {
		b, e := le.Bytes(c.n, c.w)
		if e != api.OK || !bytes.Equal(b, c.want) {
			t.Errorf("Bytes(%#x, %d) = %v, %d; want %v", c.n, c.w, b, e, c.want)
		}
	}
}

func TestP1_1BytesAtTheLimitsOfEachWidth(t *testing.T) {
	for w := 1; w <= 8; w++ {
		greatest := uint64(math.MaxUint64) >> (64 - 8*w)
		if b, e := le.Bytes(0, w); e != api.OK || !bytes.Equal(b, make([]byte, w)) {
			t.Errorf("Bytes(0, %d) = %v, %d", w, b, e)
		}
		if b, e := le.Bytes(greatest, w); e != api.OK || !bytes.Equal(b, bytes.Repeat([]byte{255}, w)) {
			t.Errorf("Bytes(%#x, %d) = %v, %d", greatest, w, b, e)
		}
		if w == 8 {
			continue
		}
		for _, n := range []uint64{greatest + 1, greatest + 2, math.MaxUint64, 1 << 63} {
			if b, e := le.Bytes(n, w); e != api.ErrRange || len(b) != 0 {
				t.Errorf("Bytes(%#x, %d) = %v, %d; want ErrRange", n, w, b, e)
			}
		}
	}
}

func TestP1_1BytesOfAllNumbersThatFitAndNoOthers(t *testing.T) {
	for w := 1; w <= 8; w++ {
		for _, n := range numbers() {
			b, e := le.Bytes(n, w)
			if !unsignedFits(n, w) {
				if e != api.ErrRange || len(b) != 0 {
					t.Errorf("Bytes(%#x, %d) = %v, %d; want ErrRange", n, w, b, e)
				}
				continue
			}
			if e != api.OK || len(b) != w {
				t.Errorf("Bytes(%#x, %d) = %v, %d", n, w, b, e)
				continue
			}
			rest := n
			for i, x := range b {
				if uint64(x) != rest%256 {
					t.Errorf("Bytes(%#x, %d)[%d] = %d", n, w, i, x)
				}
				rest /= 256
			}
		}
	}
}

func TestP1_1BytesRefusesWidthsBeforeNumbers(t *testing.T) {
	for _, w := range badWidths {
		for _, n := range []uint64{0, 1, 256, math.MaxUint64} {
			if b, e := le.Bytes(n, w); e != api.ErrArg || len(b) != 0 {
				t.Errorf("Bytes(%d, %d) = %v, %d; want ErrArg", n, w, b, e)
			}
		}
	}
}

func TestP1_1ValueOrdinary(t *testing.T) {
	for _, c := range []struct {
		b    []byte
		want uint64
	}{
		{[]byte{2, 1}, 258},
		{[]byte{2, 1, 0}, 258},
		{[]byte{0}, 0},
		{[]byte{255}, 255},
		{[]byte{0x44, 0xac, 0, 0}, 44100},
		{[]byte{0, 0, 0, 128}, 1 << 31},
		{[]byte{0, 0, 0, 0, 1}, 1 << 32},
		{[]byte{1, 2, 3, 4, 5, 6, 7}, 0x07060504030201},
		{[]byte{1, 2, 3, 4, 5, 6, 7, 8}, 0x0807060504030201},
		{[]byte{0, 0, 0, 0, 0, 0, 0, 128}, 1 << 63},
		{bytes.Repeat([]byte{255}, 8), math.MaxUint64},
	} {
		n, e := le.Value(c.b)
		wantNumber(t, fmt.Sprint("Value ", c.b), n, e, c.want, api.OK)
	}
}

func TestP1_1ValueOfAByteAtEachPlace(t *testing.T) {
	for w := 1; w <= 8; w++ {
		for i := range w {
			for _, x := range []byte{1, 127, 128, 255} {
				b := make([]byte, w)
				b[i] = x
				n, e := le.Value(b)
				wantNumber(t, fmt.Sprint("Value ", b), n, e, uint64(x)<<(8*i), api.OK)
			}
		}
	}
}

func TestP1_1ValueRefusesNoBytesAndMoreThanEight(t *testing.T) {
	for _, b := range [][]byte{nil, {}} {
		n, e := le.Value(b)
		wantNumber(t, "Value of nothing", n, e, 0, api.ErrArg)
	}
	// Neither the bytes in front nor zeros behind make up for a count that is wrong.
	for _, size := range []int{9, 10, 16, 255, 256, 257, 264, 1000, 1<<16 + 1} {
		for _, x := range []byte{0, 1, 255} {
			n, e := le.Value(bytes.Repeat([]byte{x}, size))
			wantNumber(t, fmt.Sprint("Value of ", size, " bytes"), n, e, 0, api.ErrArg)
		}
	}
	n, e := le.Value([]byte{1, 0, 0, 0, 0, 0, 0, 0, 0})
	wantNumber(t, "Value of 1 with 8 zeros behind", n, e, 0, api.ErrArg)
}

func TestP1_1ValueLooksAtTheLengthNotTheCapacity(t *testing.T) {
	long := bytes.Repeat([]byte{9}, 20)
	n, e := le.Value(long[:0])
	wantNumber(t, "Value of no bytes with room", n, e, 0, api.ErrArg)
	n, e = le.Value(long[:2])
	wantNumber(t, "Value of two bytes with room", n, e, 9*257, api.OK)
}
