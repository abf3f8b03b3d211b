package dual_test

import (
	"fmt"
	"math"
	"strings"
	"testing"

	"cadenza/api"
	"cadenza/dual"
	"cadenza/internal/rows"
)

func TestP8_2LengthExamples(t *testing.T) {
	for _, c := range []struct {
		d    api.Dual
		v    uint32
		want int
	}{
		{first, 5, 11}, {first, 2000, 12}, {first, 0, 11}, {first, 1023, 11}, {first, 1024, 12}, {first, 2047, 12}, {first, 2048, 13},
		{first, 50175, 59}, {first, 50176, 81}, {first, math.MaxUint32, 81},
		{api.Dual{}, 0, 1}, {api.Dual{}, 1, 2}, {api.Dual{}, 2, 3}, {api.Dual{}, 48, 49}, {api.Dual{}, 49, 81},
		{api.Dual{K0: 24}, 1<<24 - 1, 25}, {api.Dual{K0: 24}, 1 << 24, 2}, {api.Dual{K1: 24}, 0, 1}, {api.Dual{K1: 24}, 1, 26},
		{api.Dual{K0: 24, K1: 24}, 49<<24 - 1, 73}, {api.Dual{K0: 24, K1: 24}, 49 << 24, 81},
	} {
		wantLength(t, c.d, c.v, c.want)
	}
}

func TestP8_2LengthInAllStates(t *testing.T) {
	for _, d := range rows.AllKs() {
		for _, v := range rows.DualNumbers(d) {
			wantLength(t, d, v, len(rows.Dual(d, v)))
		}
	}
}

func TestP8_2LengthRefusesOtherStates(t *testing.T) {
	for _, d := range rows.BrokenDuals() {
		for _, v := range []uint32{0, 1, 1023, 1024, 1 << 31, math.MaxUint32} {
			if length, e := dual.Length(d, v); e != api.ErrBad || length != 0 {
				t.Errorf("Length(%v, %d) = %d, %d", d, v, length, e)
			}
		}
	}
}

func TestP8_2WriteExamples(t *testing.T) {
	ones := strings.Repeat("1", 48)
	for _, c := range []struct {
		d    api.Dual
		v    uint32
		want string
	}{
		{first, 5, "0" + "1010000000"},
		{first, 2000, "1" + "0" + "0000101111"},
		{first, 1023, "0" + "1111111111"},
		{first, 1024, "1" + "0" + "0000000000"},
		{first, 2048 + 1024 + 3, "1" + "110" + "1100000000"},
		{api.Dual{}, 0, "0"},
		{api.Dual{}, 1, "1" + "0"},
		{api.Dual{}, 4, "1" + "1110"},
		{api.Dual{}, 49, "1" + ones + "00001100000000000000000000000000"},
		{api.Dual{}, math.MaxUint32, "1" + ones + "01111111111111111111111111111111"},
		{api.Dual{K0: 2, K1: 3}, 3, "0" + "11"},
		{api.Dual{K0: 2, K1: 3}, 4 + 8 + 6, "1" + "10" + "011"},
	} {
		b, x, e := dual.Write(api.Bits{}, c.d, c.v)
		if e != api.OK || !rows.Same(b, rows.Bits(c.want)) || x != rows.Behind(c.d, c.v) {
			t.Errorf("Write of %d in %v = %v, %v, %d", c.v, c.d, b, x, e)
		}
	}
}

func TestP8_2WriteInAllStates(t *testing.T) {
	for i, d := range append(rows.AllKs(), states()...) {
		head := rows.Noise(i, i%67)
		for _, v := range rows.DualNumbers(d) {
			wantWritten(t, head, d, v)
		}
	}
}

func TestP8_2WriteBehindBits(t *testing.T) {
	for _, head := range rows.Heads() {
		for _, d := range []api.Dual{first, {}, {K0: 1, K1: 7}, {K0: 24, K1: 24}, {K0: 8, K1: 0, Sum0: rows.MaxSum, Sum1: rows.MaxSum}} {
			for _, v := range []uint32{0, 1, 100, 255, 256, 1000, 1024, 1 << 24, 1 << 30, math.MaxUint32} {
				wantWritten(t, head, d, v)
			}
		}
	}
}

func TestP8_2WriteBehindNothing(t *testing.T) {
	for _, b := range []api.Bits{{}, {Bytes: []byte{}}, {Bytes: []byte{255, 255}[:0]}} {
		for _, v := range rows.DualNumbers(first) {
			c, x, e := dual.Write(b, first, v)
			if e != api.OK || !rows.Same(c, rows.Bits(rows.Dual(first, v))) || x != rows.Behind(first, v) {
				t.Errorf("Write of %d = %v, %v, %d", v, c, x, e)
			}
		}
	}
}

func TestP8_2WriteUpToTheLimit(t *testing.T) {
	for _, c := range []struct {
		d api.Dual
		v uint32
	}{{api.Dual{}, 0}, {api.Dual{}, 1}, {first, 5}, {first, 2000}, {api.Dual{K0: 24}, 9}, {api.Dual{K0: 3, K1: 24}, 1 << 29}, {first, math.MaxUint32}} {
		length := len(rows.Dual(c.d, c.v))
		for _, room := range []int{length, length + 1, length + 8} {
			front := rows.Full(room)
			b, x, e := dual.Write(front, c.d, c.v)
			if e != api.OK || b.N != front.N+length || x != rows.Behind(c.d, c.v) {
				t.Fatalf("Write of %d in %v with room for %d: %d bits, %v, %d", c.v, c.d, room, b.N, x, e)
			}
			wantRead(t, "almost full bits", b, front.N, c.d, c.v, front.N+length)
		}
		for room := range length {
			wantNotWritten(t, fmt.Sprint("bits with room for ", room), rows.Full(room), c.d, c.v, api.ErrFull)
		}
	}
}

func TestP8_2WriteRefusesInOrder(t *testing.T) {
	for what, b := range rows.Broken() {
		for _, d := range append(rows.BrokenDuals(), first, api.Dual{}) {
			for _, v := range []uint32{0, 5, math.MaxUint32} {
				wantNotWritten(t, what, b, d, v, api.ErrBad)
			}
		}
	}
	full := rows.Full(0)
	for _, d := range rows.BrokenDuals() {
		for _, v := range []uint32{0, 5, 1024, math.MaxUint32} {
			wantNotWritten(t, "nothing", api.Bits{}, d, v, api.ErrBad)
			wantNotWritten(t, "bits", rows.Bits("10110"), d, v, api.ErrBad)
			wantNotWritten(t, "full bits", full, d, v, api.ErrBad)
		}
	}
}
