package bits_test

import (
	"math"
	"math/big"
	"slices"
	"strings"
	"testing"

	"cadenza/api"
	"cadenza/bits"
	"cadenza/internal/rows"
)

// badCounts are no counts of bits from 0 to 64; some would become one if they were cut to fewer bits, or their sign lost.
var badCounts = []int{math.MinInt, math.MinInt + 1, -1 << 32, -256, -65, -64, -8, -1, 65, 66, 72, 127, 128, 255, 256, 257, 1 << 16, 1<<32 + 1, math.MaxInt - 1, math.MaxInt}

// digits are the n lowest bits of a number as a text, the lowest one in front.
func digits(v uint64, n int) string {
	text := strings.Repeat("0", 64) + new(big.Int).SetUint64(v).Text(2)
	turned := []byte(text)
	slices.Reverse(turned)
	return string(turned[:n])
}

// number is what a text of bits stands for, the lowest one in front.
func number(text string) uint64 {
	turned := []byte(text + "0")
	slices.Reverse(turned)
	n, _ := new(big.Int).SetString(string(turned), 2)
	return n.Uint64()
}

func wantBits(t *testing.T, what string, b api.Bits, e api.Errno, want string) {
	t.Helper()
	if e != api.OK || !rows.Same(b, rows.Bits(want)) {
		t.Fatalf("%s = %v, %d; want %q", what, b, e, want)
	}
}

func wantNoBits(t *testing.T, what string, b api.Bits, e, want api.Errno) {
	t.Helper()
	if e != want || b.N != 0 || len(b.Bytes) != 0 {
		t.Fatalf("%s: %d bits, %d bytes, %d; want error %d", what, b.N, len(b.Bytes), e, want)
	}
}

func wantNumber(t *testing.T, what string, v uint64, e api.Errno, want uint64, wantErr api.Errno) {
	t.Helper()
	if v != want || e != wantErr {
		t.Fatalf("%s = %d, %d; want %d, %d", what, v, e, want, wantErr)
	}
}

func mustPut(t *testing.T, b api.Bits, v uint64, n int) api.Bits {
	t.Helper()
	c, e := bits.Put(b, v, n)
	if e != api.OK {
		t.Fatalf("Put(%d bits, %d, %d): %d", b.N, v, n, e)
	}
	return c
}

func mustJoin(t *testing.T, a, b api.Bits) api.Bits {
	t.Helper()
	c, e := bits.Join(a, b)
	if e != api.OK {
		t.Fatalf("Join(%d bits, %d bits): %d", a.N, b.N, e)
	}
	return c
}

func mustCut(t *testing.T, b api.Bits, from, to int) api.Bits {
	t.Helper()
	c, e := bits.Cut(b, from, to)
	if e != api.OK {
		t.Fatalf("Cut(%d bits, %d, %d): %d", b.N, from, to, e)
	}
	return c
}
