package block_test

import (
	"bytes"
	"math"
	"math/bits"
	"slices"
	"testing"

	"cadenza/api"
	layer2 "cadenza/bits"
	"cadenza/block"
	"cadenza/crc32"
	"cadenza/internal/rows"
	"cadenza/le"
)

func TestP11_3WhatWasPackedIsUnpackedFilledUp(t *testing.T) {
	for _, text := range someTexts() {
		b := rows.Bits(text)
		up, e := layer2.Align(b)
		if e != api.OK {
			t.Fatal(e)
		}
		wantUnpacked(t, mustPack(t, b), up)
		// Filled up they have the same block.
		wantPacked(t, up, mustPack(t, b))
	}
	for less := range 17 {
		b := rows.Full(less)
		wantUnpacked(t, mustPack(t, b), api.Bits{Bytes: b.Bytes, N: 8 * len(b.Bytes)})
	}
}

func TestP11_3WhatWasUnpackedIsPackedAsTheSameBlock(t *testing.T) {
	for _, p := range append(someBlocks(), blockOf(rows.Full(0).Bytes), blockOf(make([]byte, mostBytes-1))) {
		wantPacked(t, mustUnpack(t, p), p)
	}
	for seed := range 500 {
		p := blockOf(noise(seed, seed))
		wantPacked(t, mustUnpack(t, p), p)
	}
}

// The sums of layer 3, with the bytes of layer 1.
func TestP11_3TheBytesAndTheirSum(t *testing.T) {
	for _, text := range someTexts() {
		b := rows.Bits(text)
		p := mustPack(t, b)
		sum, e := crc32.Sum(b.Bytes)
		last, f := le.At(p, len(b.Bytes), 4)
		if e != api.OK || f != api.OK || !bytes.Equal(p[:len(p)-4], b.Bytes) || last != uint64(sum) {
			t.Fatalf("%q: %v, %d, %d; the sum is %d", text, short(p), e, f, sum)
		}
	}
}

// wantRefused refuses a block with a burst in it.
func wantRefused(t *testing.T, p []byte, at int, pattern uint64) {
	t.Helper()
	changed := rows.Both(p, rows.Burst(len(p), at, pattern))
	if b, e := block.Unpack(changed); e != api.ErrSum || b.N != 0 || len(b.Bytes) != 0 {
		t.Fatalf("a block of %d bytes, %v, with the pattern %#x at %d: %d bits, %d", len(p), short(p), pattern, at, b.N, e)
	}
}

// Each pattern of up to 16 bits is tried at each place, of the bytes, of the sum, and on both sides of where it begins.
func TestP11_3ShortBurstsAreRefused(t *testing.T) {
	for _, b := range [][]byte{{}, {0}, {5, 255}, noise(2, 5)} {
		p := mustPack(t, api.Bits{Bytes: b, N: 8 * len(b)})
		for pattern := uint64(1); pattern < 1<<16; pattern += 2 {
			for at := range 8*len(p) - bits.Len64(pattern) + 1 {
				wantRefused(t, p, at, pattern)
			}
		}
	}
}

func TestP11_3BurstsOfUpTo32BitsAreRefused(t *testing.T) {
	for _, b := range [][]byte{{}, {0}, {255}, noise(1, 3), noise(2, 4), make([]byte, 20), bytes.Repeat([]byte{255}, 20), noise(9, 33)} {
		p := mustPack(t, api.Bits{Bytes: b, N: 8 * len(b)})
		for _, pattern := range rows.Patterns() {
			for at := range 8*len(p) - bits.Len64(pattern) + 1 {
				wantRefused(t, p, at, pattern)
			}
		}
	}
}

func TestP11_3BurstsInLongBlocksAreRefused(t *testing.T) {
	patterns := rows.Patterns()[:12]
	for _, b := range []api.Bits{rows.Full(0), rows.Full(3), {Bytes: make([]byte, mostBytes), N: api.MaxBits}} {
		p := mustPack(t, b)
		for _, pattern := range patterns {
			for _, at := range []int{0, 1, 7, 8, 31, 32, 123457, api.MaxBits - 64, api.MaxBits - 32, api.MaxBits - 31, api.MaxBits - 20, api.MaxBits - 16, api.MaxBits - 8, api.MaxBits - 1, api.MaxBits} {
				wantRefused(t, p, at, pattern)
			}
		}
		for at := api.MaxBits; at < api.MaxBits+32; at++ {
			wantRefused(t, p, at, 1)
		}
	}
}

// All patterns of the sum alone that have few ones, or few zeros.
func TestP11_3OtherSumsAreRefused(t *testing.T) {
	for _, b := range [][]byte{{}, {0}, noise(5, 17)} {
		p := mustPack(t, api.Bits{Bytes: b, N: 8 * len(b)})
		for i := range 32 {
			for j := range i + 1 {
				for k := range j + 1 {
					// Where two of them are the same there are two ones, or one.
					pattern := uint64(1)<<i | uint64(1)<<j | uint64(1)<<k
					wantRefused(t, p, 8*len(b), pattern)
					wantRefused(t, p, 8*len(b), math.MaxUint32-pattern)
				}
			}
		}
	}
}

// There is one pattern of 33 bits that makes another block: the divisor itself. It shows that 32 bits are the most, and how bits stand side by side, also from the last byte to the sum.
func TestP11_3TheDivisorAloneMakesAnotherBlock(t *testing.T) {
	for _, b := range [][]byte{{0}, {77}, noise(3, 4), noise(13, 12)} {
		p := mustPack(t, api.Bits{Bytes: b, N: 8 * len(b)})
		for at := range 8 * len(b) {
			other := rows.Both(p, rows.Burst(len(p), at, rows.Divisor))
			wantUnpacked(t, other, api.Bits{Bytes: other[:len(b)], N: 8 * len(b)})
			wantPacked(t, api.Bits{Bytes: other[:len(b)], N: 8 * len(b)}, other)
		}
	}
}

// asBits are bytes as bits that have the same memory.
func asBits(p []byte) api.Bits { return api.Bits{Bytes: p, N: 8 * len(p)} }

func TestP1PackOnlyReadsBitsAndSharesNoMemory(t *testing.T) {
	calls := func(b api.Bits) []api.Bits {
		one, _ := block.Pack(b)
		other, _ := block.Pack(b)
		return []api.Bits{asBits(one), asBits(other)}
	}
	for _, text := range append(rows.Texts(26), rows.Noise(5, 1000)) {
		if fault := rows.MemoryFault(text, calls); fault != "" {
			t.Fatalf("%q: %s", text, fault)
		}
	}
}

func TestP1UnpackOnlyReadsBytesAndSharesNoMemory(t *testing.T) {
	calls := func(b api.Bits) []api.Bits {
		one, _ := block.Unpack(b.Bytes)
		other, _ := block.Unpack(b.Bytes)
		return []api.Bits{one, other}
	}
	for _, p := range append(someBlocks(), []byte{}, []byte{1, 2, 3}, noise(1, 30)) {
		if fault := rows.MemoryFault(rows.Text(asBits(p)), calls); fault != "" {
			t.Fatalf("%v: %s", short(p), fault)
		}
	}
}

func TestP1LooksAtTheLengthNotTheCapacity(t *testing.T) {
	memory := slices.Concat(blockOf(noise(1, 9)), blockOf(noise(2, 9)), blockOf(nil))
	for from := range len(memory) + 1 {
		for to := from; to <= len(memory); to++ {
			wantAsDefined(t, memory[from:to])
		}
		wantPacked(t, asBits(memory[:from]), blockOf(memory[:from]))
	}
	room := append(blockOf(make([]byte, mostBytes)), make([]byte, 2*api.MaxFile)...)
	wantUnpacked(t, room[:mostBytes+4], asBits(make([]byte, mostBytes)))
	wantNotUnpacked(t, "a byte more", room[:mostBytes+5], api.ErrMany)
}

// Whatever the arguments are: no call panics, and with an error all else is 0.
func TestP1ResultsForAllArguments(t *testing.T) {
	args := []api.Bits{{}, rows.Bits("1"), rows.Bits(rows.Noise(1, 65)), rows.Full(0), rows.Full(1), asBits(make([]byte, mostBytes+4)), asBits(make([]byte, mostBytes+5))}
	for _, b := range rows.Broken() {
		args = append(args, b)
	}
	for _, b := range args {
		p, e := block.Pack(b)
		size, f := block.Size(b.N)
		if e == api.OK && (f != api.OK || len(p) != size) || e != api.OK && len(p) != 0 || f != api.OK && size != 0 {
			t.Fatalf("Pack of %d bits: %d bytes, %d; their size is %d, %d", b.N, len(p), e, size, f)
		}
		c, e := block.Unpack(b.Bytes)
		if layer2.Check(c) != api.OK || e != api.OK && c.N != 0 || e == api.OK && c.N != 8*(len(b.Bytes)-4) {
			t.Fatalf("Unpack of %d bytes: %d bits, %d bytes, %d", len(b.Bytes), c.N, len(c.Bytes), e)
		}
	}
}

func TestP1NothingIsKeptFromCallToCall(t *testing.T) {
	p := blockOf([]byte("123456789"))
	for range 3 {
		wantNotPacked(t, "no byte for a bit", api.Bits{N: 1}, api.ErrBad)
		wantNotUnpacked(t, "too few", p[:3], api.ErrShort)
		wantNotUnpacked(t, "too many", make([]byte, mostBytes+5), api.ErrMany)
		wantNotUnpacked(t, "another sum", p[:12], api.ErrSum)
		wantPacked(t, rows.Bits("101"), blockOf([]byte{5}))
		wantUnpacked(t, p, asBits([]byte("123456789")))
		clear(mustPack(t, asBits([]byte("123456789"))))
		clear(mustUnpack(t, p).Bytes)
		wantPacked(t, asBits([]byte("123456789")), p)
		wantPacked(t, api.Bits{}, make([]byte, 4))
	}
}
