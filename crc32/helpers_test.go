package crc32_test

import (
	"math"
	"testing"

	"cadenza/api"
	"cadenza/crc32"
)

const (
	first      = math.MaxUint32
	polynomial = 3988292384
)

// states are the first one, 0, each single bit, and some without a pattern.
func states() []uint32 {
	l := []uint32{first, 0, polynomial, 0x12345678, 0xdeadbeef, 0x80000001, 0x7fffffff, 0xfffffffe, 0x00ffff00}
	for i := range 32 {
		l = append(l, uint32(1)<<i)
	}
	return l
}

// step is a step as the chapter defines it: one bit after the other, by whole numbers.
func step(state uint64, bit byte) uint64 {
	if bit == 1 {
		if state%2 == 0 {
			state++
		} else {
			state--
		}
	}
	odd := state%2 == 1
	state /= 2
	if odd {
		state ^= polynomial
	}
	return state
}

// behind is the state behind bytes as the chapter defines it.
func behind(state uint32, b []byte) uint32 {
	s := uint64(state)
	for _, x := range b {
		for range 8 {
			s = step(s, x%2)
			x /= 2
		}
	}
	return uint32(s)
}

// noise is n bytes without a pattern that repeats soon; another seed gives others.
func noise(seed, n int) []byte {
	b := make([]byte, n)
	x := uint32(seed)*2654435761 + 12345
	for i := range b {
		x ^= x << 13
		x ^= x >> 17
		x ^= x << 5
		b[i] = byte(x >> 11)
	}
	return b
}

func mustNext(t *testing.T, state uint32, b []byte) uint32 {
	t.Helper()
	next, e := crc32.Next(state, b)
	if e != api.OK {
		t.Fatalf("Next(%#x, %d bytes): %d", state, len(b), e)
	}
	return next
}

func mustSum(t *testing.T, b []byte) uint32 {
	t.Helper()
	sum, e := crc32.Sum(b)
	if e != api.OK {
		t.Fatalf("Sum(%d bytes): %d", len(b), e)
	}
	return sum
}
