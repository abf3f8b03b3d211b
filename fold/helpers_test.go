package fold_test

import (
	"math"
	"math/big"
	"testing"

	"cadenza/api"
	"cadenza/fold"
)

// folded is a signed number, folded, as the chapter defines it. The tests count with big numbers, so that no wraparound of theirs can hide one of the program.
func folded(x int32) uint32 {
	n := new(big.Int).Mul(big.NewInt(2), big.NewInt(int64(x)))
	if x < 0 {
		n.Sub(n.Neg(n), big.NewInt(1))
	}
	return uint32(n.Uint64())
}

// unfolded is a number, unfolded, as the chapter defines it.
func unfolded(n uint32) int32 {
	y := big.NewInt(int64(n))
	if n%2 == 1 {
		y.Neg(y.Add(y, big.NewInt(1)))
	}
	return int32(y.Quo(y, big.NewInt(2)).Int64())
}

// numbers are the ends of all numbers with what is near them, each power of 2 with its neighbours, and some without a pattern.
func numbers() []uint32 {
	var l []uint32
	for i := range uint32(1000) {
		l = append(l, i, math.MaxUint32-i, 1<<31+i, 1<<31-1-i)
	}
	for i := range 32 {
		p := uint32(1) << i
		l = append(l, p-2, p-1, p, p+1, p+2, -p-2, -p-1, -p, -p+1, -p+2)
	}
	return append(l, noise(1, 20000)...)
}

// signedNumbers are the same numbers, with signs.
func signedNumbers() []int32 {
	var l []int32
	for _, n := range numbers() {
		l = append(l, int32(n))
	}
	return l
}

// noise is n numbers without a pattern that repeats soon; another seed gives others.
func noise(seed, n int) []uint32 {
	l := make([]uint32, n)
	x := uint64(seed)*0x9e3779b97f4a7c15 + 12345
	for i := range l {
		x = x*6364136223846793005 + 1442695040888963407
		l[i] = uint32(x >> 32)
	}
	return l
}

func signedNoise(seed, n int) []int32 {
	l := make([]int32, n)
	for i, x := range noise(seed, n) {
		l[i] = int32(x)
	}
	return l
}

// size is the absolute value of a signed number.
func size(x int32) int64 { return max(int64(x), -int64(x)) }

func mustAll(t *testing.T, l []int32) []uint32 {
	t.Helper()
	return must(t, "All", fold.All, l)
}

func mustUndo(t *testing.T, l []uint32) []int32 {
	t.Helper()
	return must(t, "Undo", fold.Undo, l)
}

func must[A, B any](t *testing.T, what string, call func([]A) ([]B, api.Errno), l []A) []B {
	t.Helper()
	made, e := call(l)
	if e != api.OK || len(made) != len(l) {
		t.Fatalf("%s of %d numbers: %d numbers, %d", what, len(l), len(made), e)
	}
	return made
}
