package bits_test

import (
	"bytes"
	"math"
	"math/big"
	"slices"
	"strings"
	"testing"

	"cadenza/api"
	"cadenza/bits"
)

// badCounts are no counts of bits from 0 to 64; some would become one if they were cut to fewer bits, or their sign lost.
var badCounts = []int{math.MinInt, math.MinInt + 1, -1 << 32, -256, -65, -64, -8, -1, 65, 66, 72, 127, 128, 255, 256, 257, 1 << 16, 1<<32 + 1, math.MaxInt - 1, math.MaxInt}

// row makes bits of a text of zeros and ones, the first one in front. The tests count with such texts, and not with bytes.
func row(text string) api.Bits {
	b := api.Bits{N: len(text)}
	for i, c := range text {
		if i%8 == 0 {
			b.Bytes = append(b.Bytes, 0)
		}
		if c == '1' {
			b.Bytes[i/8] += byte(math.Pow(2, float64(i%8)))
		}
	}
	return b
}

// digits are the n lowest bits of a number as a text, the lowest one in front.
func digits(v uint64, n int) string {
	text := strings.Repeat("0", 64) + new(big.Int).SetUint64(v).Text(2)
	turned := []byte(text)
	slices.Reverse(turned)
	return string(turned[:n])
}

// number is what a text of bits stands for, the lowest one in front.
func number(text string) uint64 {
	turned := []byte(text + "0")
	slices.Reverse(turned)
	n, _ := new(big.Int).SetString(string(turned), 2)
	return n.Uint64()
}

// noise is a text of n bits without a pattern that repeats soon; another seed gives another one.
func noise(seed, n int) string {
	text := make([]byte, n)
	x := uint32(seed)*2654435761 + 12345
	for i := range text {
		x ^= x << 13
		x ^= x >> 17
		x ^= x << 5
		text[i] = '0' + byte(x>>9&1)
	}
	return string(text)
}

// texts are short ones: the empty one, all zeros, all ones, and noise, of each length up to most.
func texts(most int) []string {
	l := []string{""}
	for n := 1; n <= most; n++ {
		l = append(l, strings.Repeat("0", n), strings.Repeat("1", n), noise(n, n), noise(n+99, n))
	}
	return l
}

// full are as many bits as there may be, less some.
func full(less int) api.Bits { return row(noise(7, api.MaxBits-less)) }

func same(a, b api.Bits) bool { return a.N == b.N && bytes.Equal(a.Bytes, b.Bytes) }

func wantBits(t *testing.T, what string, b api.Bits, e api.Errno, want string) {
	t.Helper()
	if e != api.OK || !same(b, row(want)) {
		t.Fatalf("%s = %v, %d; want %q", what, b, e, want)
	}
}

func wantNoBits(t *testing.T, what string, b api.Bits, e, want api.Errno) {
	t.Helper()
	if e != want || b.N != 0 || len(b.Bytes) != 0 {
		t.Fatalf("%s: %d bits, %d bytes, %d; want error %d", what, b.N, len(b.Bytes), e, want)
	}
}

func wantNumber(t *testing.T, what string, v uint64, e api.Errno, want uint64, wantErr api.Errno) {
	t.Helper()
	if v != want || e != wantErr {
		t.Fatalf("%s = %d, %d; want %d, %d", what, v, e, want, wantErr)
	}
}

func mustPut(t *testing.T, b api.Bits, v uint64, n int) api.Bits {
	t.Helper()
	c, e := bits.Put(b, v, n)
	if e != api.OK {
		t.Fatalf("Put(%d bits, %d, %d): %d", b.N, v, n, e)
	}
	return c
}

func mustJoin(t *testing.T, a, b api.Bits) api.Bits {
	t.Helper()
	c, e := bits.Join(a, b)
	if e != api.OK {
		t.Fatalf("Join(%d bits, %d bits): %d", a.N, b.N, e)
	}
	return c
}

func mustCut(t *testing.T, b api.Bits, from, to int) api.Bits {
	t.Helper()
	c, e := bits.Cut(b, from, to)
	if e != api.OK {
		t.Fatalf("Cut(%d bits, %d, %d): %d", b.N, from, to, e)
	}
	return c
}

// broken are bits that are not valid, each for one reason.
func broken() map[string]api.Bits {
	m := map[string]api.Bits{
		"a negative N":                   {N: -1},
		"a negative N with a byte":       {Bytes: []byte{0}, N: -1},
		"N -8":                           {N: -8},
		"the least N":                    {N: math.MinInt},
		"the greatest N":                 {N: math.MaxInt},
		"N MaxInt-6":                     {N: math.MaxInt - 6},
		"no byte for one bit":            {N: 1},
		"no byte for eight":              {Bytes: []byte{}, N: 8},
		"a byte for none":                {Bytes: []byte{0}, N: 0},
		"a byte too few":                 {Bytes: []byte{1}, N: 9},
		"a byte too many":                {Bytes: []byte{1, 0}, N: 8},
		"a byte of 0 too many":           {Bytes: []byte{255, 3, 0}, N: 10},
		"bytes only behind the length":   {Bytes: []byte{1, 1}[:0], N: 16},
		"a 1 just behind":                {Bytes: []byte{2}, N: 1},
		"a 1 at the end":                 {Bytes: []byte{128}, N: 7},
		"a 1 behind in the second":       {Bytes: []byte{255, 8}, N: 11},
		"a bit more than MaxBits":        {Bytes: make([]byte, api.MaxBits/8+1), N: api.MaxBits + 1},
		"a byte more than MaxBits":       {Bytes: make([]byte, api.MaxBits/8+1), N: api.MaxBits + 8},
		"MaxBits and a byte too many":    {Bytes: make([]byte, api.MaxBits/8+1), N: api.MaxBits},
		"MaxBits and a byte too few":     {Bytes: make([]byte, api.MaxBits/8-1), N: api.MaxBits},
		"far more than MaxBits":          {Bytes: make([]byte, api.MaxBits), N: 8 * api.MaxBits},
		"N beyond 32 bits, else N 8":     {Bytes: []byte{0}, N: 1<<32 + 8},
		"nothing, and N of a whole byte": {N: 256},
	}
	for n := 1; n < 8; n++ {
		m["ones behind "+strings.Repeat("i", n)] = api.Bits{Bytes: []byte{255}, N: n}
	}
	return m
}
