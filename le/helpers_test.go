package le_test

import (
	"math"
	"math/big"
	"testing"

	"cadenza/api"
	"cadenza/le"
)

// badWidths are no widths; some would become one if they were cut to fewer bits, or their sign lost.
var badWidths = []int{math.MinInt, math.MinInt + 1, -256, -9, -8, -1, 0, 9, 10, 16, 63, 64, 65, 256, 257, 264, 1<<32 + 1, math.MaxInt - 1, math.MaxInt}

// power is 256 to the power of w. The tests count with big numbers, so that no wraparound of theirs can hide one of the program.
func power(w int) *big.Int { return new(big.Int).Lsh(big.NewInt(1), uint(8*w)) }

func unsignedFits(n uint64, w int) bool {
	return new(big.Int).SetUint64(n).Cmp(power(w)) < 0
}

func signedFits(x int64, w int) bool {
	half := new(big.Int).Rsh(power(w), 1)
	y := big.NewInt(x)
	return y.Cmp(half) < 0 && y.Cmp(new(big.Int).Neg(half)) >= 0
}

// complement is the two's complement of a signed number that fits, as the chapter defines it.
func complement(x int64, w int) uint64 {
	y := big.NewInt(x)
	if x < 0 {
		y.Sub(power(w), new(big.Int).Abs(y))
	}
	return y.Uint64()
}

// modulo is the sum of two numbers, but for multiples of 256 to the power of w.
func modulo(a, b uint64, w int) uint64 {
	sum := new(big.Int).Add(new(big.Int).SetUint64(a), new(big.Int).SetUint64(b))
	return sum.Mod(sum, power(w)).Uint64()
}

// numbers lists 0, each power of 2 and its neighbours, and numbers whose bytes all differ.
func numbers() []uint64 {
	l := []uint64{0, 0x0123456789abcdef, 0xfedcba9876543210, 0x80f0e0d0c0b0a090, 0xdeadbeef, 0xabcdef, 258, 44100}
	for i := range 64 {
		p := uint64(1) << i
		l = append(l, p-1, p, p+1, -p, -p-1)
	}
	return append(l, math.MaxUint64)
}

func signedNumbers() []int64 {
	var l []int64
	for _, n := range numbers() {
		l = append(l, int64(n))
	}
	return l
}

func mustBytes(t *testing.T, n uint64, w int) []byte {
	t.Helper()
	b, e := le.Bytes(n, w)
	if e != api.OK || len(b) != w {
		t.Fatalf("Bytes(%d, %d) = %v, %d", n, w, b, e)
	}
	return b
}

func wantNumber(t *testing.T, what string, n uint64, e api.Errno, want uint64, wantErr api.Errno) {
	t.Helper()
	if n != want || e != wantErr {
		t.Errorf("%s = %d, %d; want %d, %d", what, n, e, want, wantErr)
	}
}

func wantSigned(t *testing.T, what string, x int64, e api.Errno, want int64, wantErr api.Errno) {
	t.Helper()
	if x != want || e != wantErr {
		t.Errorf("%s = %d, %d; want %d, %d", what, x, e, want, wantErr)
	}
}
