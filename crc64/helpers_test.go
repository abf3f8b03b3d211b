package crc64_test

import (
	stdcrc64 "hash/crc64"
	"math"
	"math/bits"
	"testing"

	"cadenza/api"
	"cadenza/crc64"
)

const polynomial = 0x42f0e1eba9ea3693

// states are 0, all ones, each single bit, and some without a pattern.
func states() []uint64 {
	l := []uint64{0, math.MaxUint64, polynomial, ^uint64(polynomial), 0x123456789abcdef0, 0xdeadbeefcafe1234, 0x8000000000000001, 0x7fffffffffffffff, 0x00000000ffffffff}
	for i := range 64 {
		l = append(l, uint64(1)<<i)
	}
	return l
}

// places are the bits of a number, each one a byte of its own, the highest one first.
type places [64]byte

func placesOf(n uint64) places {
	var p places
	for i := range p {
		p[63-i] = byte(n % 2)
		n /= 2
	}
	return p
}

func (p places) number() uint64 {
	n := uint64(0)
	for _, bit := range p {
		n = 2*n + uint64(bit)
	}
	return n
}

// step is a step as the chapter defines it, place by place.
func (p places) step(bit byte) places {
	p[0] = (p[0] + bit) % 2
	high := p[0]
	for i := range 63 {
		p[i] = p[i+1]
	}
	p[63] = 0
	if high == 1 {
		for i, one := range placesOf(polynomial) {
			p[i] = (p[i] + one) % 2
		}
	}
	return p
}

// behind is the state behind bytes as the chapter defines it.
func behind(state uint64, b []byte) uint64 {
	p := placesOf(state)
	for _, x := range b {
		for _, weight := range []byte{128, 64, 32, 16, 8, 4, 2, 1} {
			p = p.step(x / weight % 2)
		}
	}
	return p.number()
}

// mirrored is the state behind bytes by the standard library, which takes the lowest bit first, and changes all bits before and behind.
func mirrored(state uint64, b []byte) uint64 {
	turned := make([]byte, len(b))
	for i, x := range b {
		turned[i] = bits.Reverse8(x)
	}
	return bits.Reverse64(^stdcrc64.Update(^bits.Reverse64(state), stdcrc64.MakeTable(stdcrc64.ECMA), turned))
}

// noise is n bytes without a pattern that repeats soon; another seed gives others.
func noise(seed, n int) []byte {
	b := make([]byte, n)
	x := uint64(seed)*0x9e3779b97f4a7c15 + 12345
	for i := range b {
		x = x*6364136223846793005 + 1442695040888963407
		b[i] = byte(x >> 53)
	}
	return b
}

// burst is n bytes with the bits of a pattern from an index on, the highest bit of a byte first; all others are 0. The lowest bit of the pattern stands at the index.
func burst(n, at int, pattern uint64) []byte {
	b := make([]byte, n)
	for ; pattern > 0; pattern /= 2 {
		if pattern%2 == 1 {
			b[at/8] |= 128 >> (at % 8)
		}
		at++
	}
	return b
}

func mustNext(t *testing.T, state uint64, b []byte) uint64 {
	t.Helper()
	next, e := crc64.Next(state, b)
	if e != api.OK {
		t.Fatalf("Next(%#x, %d bytes): %d", state, len(b), e)
	}
	return next
}

func mustSum(t *testing.T, b []byte) uint64 {
	t.Helper()
	sum, e := crc64.Sum(b)
	if e != api.OK {
		t.Fatalf("Sum(%d bytes): %d", len(b), e)
	}
	return sum
}
