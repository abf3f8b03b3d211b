package rice_test

import (
	"fmt"
	"math"
	"testing"

	"cadenza/api"
	"cadenza/internal/rows"
	"cadenza/rice"
)

func TestP7_1Examples(t *testing.T) {
	for _, c := range []struct {
		v       uint32
		k, want int
	}{
		{9, 2, 5}, {5, 2, 4}, {0, 0, 1}, {46, 0, 47}, {47, 0, 48}, {48, 0, 80}, {49, 0, 80},
		{95, 1, 49}, {96, 1, 80}, {0, 24, 25}, {1<<24 - 1, 24, 25}, {1 << 24, 24, 26},
		{48<<24 - 1, 24, 72}, {48 << 24, 24, 80}, {math.MaxUint32, 0, 80}, {math.MaxUint32, 24, 80},
	} {
		if length := mustLength(t, c.v, c.k); length != c.want {
			t.Errorf("Length(%d, %d) = %d", c.v, c.k, length)
		}
	}
}

func TestP7_1AllParameters(t *testing.T) {
	for k := range 25 {
		for _, v := range rows.RiceNumbers(k) {
			if length := mustLength(t, v, k); length != len(rows.Rice(v, k)) {
				t.Errorf("Length(%d, %d) = %d", v, k, length)
			}
		}
	}
}

func TestP7_1RefusesOtherParameters(t *testing.T) {
	for _, k := range badParameters {
		for _, v := range []uint32{0, 1, 9, 48, 1 << 24, math.MaxUint32} {
			if length, e := rice.Length(v, k); e != api.ErrArg || length != 0 {
				t.Errorf("Length(%d, %d) = %d, %d", v, k, length, e)
			}
		}
	}
}

func TestP7_2Examples(t *testing.T) {
	const ones = "11111111111111111111111111111111111111111111111"
	for _, c := range []struct {
		v    uint32
		k    int
		want string
	}{
		{9, 2, "11010"},
		{0, 0, "0"},
		{6, 3, "0011"},
		{47, 0, ones + "0"},
		{48, 0, ones + "1" + "00001100000000000000000000000000"},
		{95, 1, ones + "01"},
		{96, 1, ones + "1" + "00000110000000000000000000000000"},
		{0x8000000d, 24, ones + "1" + "10110000000000000000000000000001"},
		{math.MaxUint32, 24, ones + "1" + "11111111111111111111111111111111"},
	} {
		b, e := rice.Write(api.Bits{}, c.v, c.k)
		if e != api.OK || !rows.Same(b, rows.Bits(c.want)) {
			t.Errorf("Write of %d with %d = %v, %d", c.v, c.k, b, e)
		}
	}
}

func TestP7_2AllParametersBehindBits(t *testing.T) {
	for k := range 25 {
		for _, v := range rows.RiceNumbers(k) {
			for _, head := range []string{"", "1", "1011010", "11111111", rows.Noise(k, 67)} {
				wantWritten(t, head, v, k)
			}
		}
	}
	for _, head := range rows.Heads() {
		for _, k := range []int{0, 1, 7, 8, 24} {
			for _, v := range []uint32{0, 1, 100, 47 << k, 48<<k - 1, 48 << k, math.MaxUint32} {
				wantWritten(t, head, v, k)
			}
		}
	}
}

func TestP7_2BehindNothing(t *testing.T) {
	for _, b := range []api.Bits{{}, {Bytes: []byte{}}, {Bytes: []byte{255, 255}[:0]}} {
		for _, v := range rows.RiceNumbers(3) {
			c, e := rice.Write(b, v, 3)
			if e != api.OK || !rows.Same(c, rows.Bits(rows.Rice(v, 3))) {
				t.Errorf("Write of %d = %v, %d", v, c, e)
			}
		}
	}
}

// Codes with a run alone, with few and with all bits behind it: none of them may end behind MaxBits, neither in the run nor behind it.
func TestP7_2UpToTheLimit(t *testing.T) {
	for _, c := range []struct {
		v uint32
		k int
	}{{0, 0}, {3, 0}, {47, 0}, {48, 0}, {9, 2}, {0, 7}, {5000, 8}, {0, 24}, {48<<24 - 1, 24}, {math.MaxUint32, 24}} {
		length := len(rows.Rice(c.v, c.k))
		for _, room := range []int{length, length + 1, length + 8} {
			front := rows.Full(room)
			b, e := rice.Write(front, c.v, c.k)
			if e != api.OK || b.N != front.N+length {
				t.Fatalf("Write of %d with %d and room for %d: %d bits, %d", c.v, c.k, room, b.N, e)
			}
			wantRead(t, "almost full bits", b, front.N, c.k, c.v, front.N+length)
		}
		for room := range length {
			wantNotWritten(t, fmt.Sprint("bits with room for ", room), rows.Full(room), c.v, c.k, api.ErrFull)
		}
	}
}

func TestP7_2RefusesInOrder(t *testing.T) {
	for what, b := range rows.Broken() {
		for _, k := range append([]int{0, 1, 23, 24}, badParameters...) {
			for _, v := range []uint32{0, 9, math.MaxUint32} {
				wantNotWritten(t, what, b, v, k, api.ErrBad)
			}
		}
	}
	full := rows.Full(0)
	for _, k := range badParameters {
		for _, v := range []uint32{0, 9, 48, math.MaxUint32} {
			wantNotWritten(t, "nothing", api.Bits{}, v, k, api.ErrArg)
			wantNotWritten(t, "bits", rows.Bits("10110"), v, k, api.ErrArg)
			wantNotWritten(t, "full bits", full, v, k, api.ErrArg)
		}
	}
}
