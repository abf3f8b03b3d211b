package bits_test

import (
	"bytes"
	"fmt"
	"math"
	"strings"
	"testing"

	"cadenza/api"
	"cadenza/bits"
	"cadenza/internal/rows"
)

func TestP2_2JoinOfShortOnes(t *testing.T) {
	for _, a := range rows.Texts(18) {
		for _, b := range rows.Texts(18) {
			c, e := bits.Join(rows.Bits(a), rows.Bits(b))
			wantBits(t, fmt.Sprint("Join ", a, " ", b), c, e, a+b)
		}
	}
}

func TestP2_2JoinOfLongOnes(t *testing.T) {
	for _, m := range []int{0, 1, 7, 8, 63, 64, 65, 1000, 1001} {
		for _, n := range []int{0, 1, 7, 8, 63, 64, 65, 1000, 1003} {
			a, b := rows.Noise(m, m), rows.Noise(n+50, n)
			c, e := bits.Join(rows.Bits(a), rows.Bits(b))
			wantBits(t, fmt.Sprint("Join ", m, " ", n), c, e, a+b)
		}
	}
}

func TestP2_2JoinUpToTheLimit(t *testing.T) {
	all := rows.Noise(7, api.MaxBits)
	for _, n := range []int{0, 1, 7, 8, 9, 100, 165000, api.MaxBits - 9, api.MaxBits - 1, api.MaxBits} {
		a, b := rows.Bits(all[:n]), rows.Bits(all[n:])
		c, e := bits.Join(a, b)
		if e != api.OK || !rows.Same(c, rows.Bits(all)) {
			t.Errorf("Join of %d and %d: %d", a.N, b.N, e)
		}
		for _, more := range []string{"0", "1", "00000000", rows.Noise(1, 500)} {
			if c, e := bits.Join(a, rows.Bits(all[n:]+more)); n >= len(more) {
				wantNoBits(t, fmt.Sprint("Join of ", n, " and too many"), c, e, api.ErrFull)
			}
			if c, e := bits.Join(rows.Bits(all[:n]+more), b); b.N >= len(more) {
				wantNoBits(t, fmt.Sprint("Join of too many and ", b.N), c, e, api.ErrFull)
			}
		}
	}
	c, e := bits.Join(rows.Full(0), rows.Full(0))
	wantNoBits(t, "Join of all and all", c, e, api.ErrFull)
}

func TestP2_2JoinRefusesInOrder(t *testing.T) {
	for what, b := range rows.Broken() {
		for _, a := range []api.Bits{{}, rows.Bits("1"), rows.Full(0), b} {
			c, e := bits.Join(a, b)
			wantNoBits(t, "Join of valid ones and "+what, c, e, api.ErrBad)
			c, e = bits.Join(b, a)
			wantNoBits(t, "Join of "+what+" and valid ones", c, e, api.ErrBad)
		}
	}
}

func TestP2_2CutOfEachPart(t *testing.T) {
	for _, text := range []string{"", "0", "1", "1011", "11111111", rows.Noise(1, 17), rows.Noise(2, 33), strings.Repeat("1", 26)} {
		b := rows.Bits(text)
		for from := range len(text) + 1 {
			for to := range len(text) + 1 {
				c, e := bits.Cut(b, from, to)
				what := fmt.Sprint("Cut ", text, " ", from, " ", to)
				if from > to {
					wantNoBits(t, what, c, e, api.ErrArg)
					continue
				}
				wantBits(t, what, c, e, text[from:to])
			}
		}
	}
}

func TestP2_2CutOfLongOnes(t *testing.T) {
	all := rows.Noise(7, api.MaxBits)
	b := rows.Bits(all)
	for _, p := range [][2]int{{0, api.MaxBits}, {1, api.MaxBits}, {0, api.MaxBits - 1}, {8, api.MaxBits - 8}, {13, 300000}, {299999, api.MaxBits}, {api.MaxBits - 1, api.MaxBits}, {api.MaxBits, api.MaxBits}, {4096, 4096 + 640}} {
		c, e := bits.Cut(b, p[0], p[1])
		if e != api.OK || !rows.Same(c, rows.Bits(all[p[0]:p[1]])) {
			t.Errorf("Cut of all %v: %d bits, %d", p, c.N, e)
		}
	}
}

func TestP2_2CutLooksAtTheLengthNotTheCapacity(t *testing.T) {
	b := api.Bits{Bytes: []byte{255, 15, 255, 255}[:2], N: 12}
	c, e := bits.Cut(b, 4, 12)
	wantBits(t, "Cut up to the end", c, e, "11111111")
	c, e = bits.Cut(b, 5, 12)
	wantBits(t, "Cut of seven", c, e, "1111111")
	c, e = bits.Cut(b, 5, 13)
	wantNoBits(t, "Cut beyond", c, e, api.ErrArg)
}

func TestP2_2CutRefusesIndicesThatAreNone(t *testing.T) {
	for _, b := range []api.Bits{{}, rows.Bits("1"), rows.Bits(rows.Noise(1, 16)), rows.Full(0)} {
		for _, bad := range []int{math.MinInt, math.MinInt + 1, -1 << 32, -8, -1, b.N + 1, b.N + 8, 1<<32 + 1, math.MaxInt - 1, math.MaxInt} {
			for _, other := range []int{bad, 0, b.N, b.N / 2} {
				c, e := bits.Cut(b, bad, other)
				wantNoBits(t, fmt.Sprint("Cut of ", b.N, " ", bad, " ", other), c, e, api.ErrArg)
				c, e = bits.Cut(b, other, bad)
				wantNoBits(t, fmt.Sprint("Cut of ", b.N, " ", other, " ", bad), c, e, api.ErrArg)
			}
		}
	}
	for what, b := range rows.Broken() {
		for _, p := range [][2]int{{0, 0}, {0, 1}, {1, 0}, {-1, 9}} {
			c, e := bits.Cut(b, p[0], p[1])
			wantNoBits(t, "Cut of "+what, c, e, api.ErrBad)
		}
	}
}

func TestP2_2OfIsAllBits(t *testing.T) {
	for _, p := range [][]byte{nil, {}, []byte{255, 255}[:0]} {
		b, e := bits.Of(p)
		wantBits(t, "Of no bytes", b, e, "")
	}
	b, e := bits.Of([]byte{53, 0, 128})
	wantBits(t, "Of", b, e, "10101100"+"00000000"+"00000001")
	for size := range 20 {
		p := rows.Bits(rows.Noise(size, 8*size)).Bytes
		b, e := bits.Of(p)
		if e != api.OK || b.N != 8*size || !bytes.Equal(b.Bytes, p) {
			t.Errorf("Of(%v) = %v, %d", p, b, e)
		}
	}
}

func TestP2_2OfUpToTheLimit(t *testing.T) {
	p := rows.Full(0).Bytes
	for _, size := range []int{41249, 41250} {
		b, e := bits.Of(p[:size])
		if e != api.OK || b.N != 8*size || !bytes.Equal(b.Bytes, p[:size]) {
			t.Errorf("Of %d bytes: %d bits, %d", size, b.N, e)
		}
	}
	for _, size := range []int{41251, 41252, 82500, api.MaxBits, 1 << 20} {
		b, e := bits.Of(make([]byte, size))
		wantNoBits(t, fmt.Sprint("Of ", size), b, e, api.ErrMany)
	}
}

func TestP2_2AlignPutsZerosBehind(t *testing.T) {
	for _, text := range rows.Texts(40) {
		b, e := bits.Align(rows.Bits(text))
		wantBits(t, "Align "+text, b, e, text+strings.Repeat("0", (8-len(text)%8)%8))
	}
}

func TestP2_2AlignUpToTheLimit(t *testing.T) {
	for less := range 10 {
		text := rows.Noise(7, api.MaxBits-less)
		b, e := bits.Align(rows.Bits(text))
		if e != api.OK || !rows.Same(b, rows.Bits(text+strings.Repeat("0", less%8))) {
			t.Errorf("Align of MaxBits less %d: %d bits, %d", less, b.N, e)
		}
	}
}

func TestP2_2AlignRefusesBitsThatAreNotValid(t *testing.T) {
	for what, b := range rows.Broken() {
		c, e := bits.Align(b)
		wantNoBits(t, "Align of "+what, c, e, api.ErrBad)
	}
}
