package crc32_test

import (
	"bytes"
	"slices"
	"testing"

	"cadenza/api"
	"cadenza/crc32"
	"cadenza/internal/rows"
)

func TestP3_3PartsAreTheWhole(t *testing.T) {
	for n := range 40 {
		b := noise(n+50, n)
		for _, state := range states() {
			whole := mustNext(t, state, b)
			for cut := range n + 1 {
				if parts := mustNext(t, mustNext(t, state, b[:cut]), b[cut:]); parts != whole {
					t.Fatalf("%v cut at %d, from %#x: %#x, not %#x", b, cut, state, parts, whole)
				}
			}
		}
	}
}

func TestP3_3PartsOfAnySizeAreTheWhole(t *testing.T) {
	b := noise(8, api.MaxFile)
	whole := mustSum(t, b)
	for _, size := range []int{1, 2, 3, 7, 255, 256, 4093, api.MaxFile - 1} {
		state := uint32(first)
		for part := range slices.Chunk(b, size) {
			state = mustNext(t, state, part)
		}
		if ^state != whole {
			t.Errorf("parts of %d bytes: %#x, not %#x", size, ^state, whole)
		}
	}
}

// Each pattern of up to 16 bits is tried at each place.
func TestP3_3ShortBurstsChangeTheSum(t *testing.T) {
	const size = 5
	b := noise(2, size)
	sum := mustSum(t, b)
	for pattern := uint64(1); pattern < 1<<16; pattern += 2 {
		for at := range 8*size - 15 {
			if mustSum(t, rows.Both(b, rows.Burst(size, at, pattern))) == sum {
				t.Fatalf("pattern %#x at %d", pattern, at)
			}
		}
	}
}

func TestP3_3BurstsOfUpTo32BitsChangeTheSum(t *testing.T) {
	const size = 24
	for _, b := range [][]byte{make([]byte, size), bytes.Repeat([]byte{255}, size), noise(9, size)} {
		sum := mustSum(t, b)
		for _, pattern := range rows.Patterns() {
			for at := range 8*size - 31 {
				if mustSum(t, rows.Both(b, rows.Burst(size, at, pattern))) == sum {
					t.Fatalf("pattern %#x at %d", pattern, at)
				}
			}
		}
	}
}

// There is one pattern of 33 bits that the sum does not see: the divisor itself. It shows that 32 bits are the most.
func TestP3_3TheDivisorAloneIsNotSeen(t *testing.T) {
	const size = 12
	b := noise(13, size)
	sum := mustSum(t, b)
	for at := range 8*size - 32 {
		if mustSum(t, rows.Both(b, rows.Burst(size, at, rows.Divisor))) != sum {
			t.Fatalf("at %d the sum is another one", at)
		}
	}
}

func TestP3_3SingleBitsOfALongStringChangeTheSum(t *testing.T) {
	b := noise(21, api.MaxFile)
	sum := mustSum(t, b)
	for _, at := range []int{0, 1, 7, 8, 31, 32, 8*api.MaxFile - 33, 8*api.MaxFile - 2, 8*api.MaxFile - 1, 8 * 50000, 123457} {
		b[at/8] ^= 1 << (at % 8)
		if mustSum(t, b) == sum {
			t.Errorf("bit %d", at)
		}
		b[at/8] ^= 1 << (at % 8)
	}
}

func TestP3_3ChangesTogether(t *testing.T) {
	for n := range 80 {
		for seed := range 10 {
			a, b := noise(seed, n), noise(seed+n+100, n)
			together := mustNext(t, 0, rows.Both(a, b))
			if want := mustNext(t, 0, a) ^ mustNext(t, 0, b); together != want {
				t.Fatalf("%v and %v: %#x, not %#x", a, b, together, want)
			}
		}
	}
}

func TestP3_3ChangesTogetherForAllPairsOfBytes(t *testing.T) {
	table := crc32.Table()
	for a := range table {
		for b := range table {
			if table[a^b] != table[a]^table[b] {
				t.Fatalf("%d and %d", a, b)
			}
		}
	}
}

func TestP1ArgumentsAreOnlyRead(t *testing.T) {
	whole := noise(30, 64)
	before := slices.Clone(whole)
	for n := range len(whole) + 1 {
		crc32.Next(first, whole[:n])
		crc32.Sum(whole[:n])
		if !bytes.Equal(whole, before) {
			t.Fatalf("with %d bytes: %v", n, whole)
		}
	}
	many := noise(31, api.MaxFile+1)
	before = slices.Clone(many)
	crc32.Next(first, many)
	crc32.Sum(many)
	if !bytes.Equal(many, before) {
		t.Error("too many bytes changed")
	}
}

func TestP1OnlyTheLengthCounts(t *testing.T) {
	whole := noise(32, 40)
	for n := range len(whole) {
		alone := slices.Clip(slices.Clone(whole[:n]))
		if mustSum(t, whole[:n]) != mustSum(t, alone) || mustNext(t, 5, whole[:n]) != mustNext(t, 5, alone) {
			t.Fatalf("%d bytes with others behind", n)
		}
	}
}

func TestP1NothingIsKeptFromCallToCall(t *testing.T) {
	for range 3 {
		crc32.Sum(make([]byte, api.MaxFile+1))
		crc32.Next(77, make([]byte, api.MaxFile+1))
		crc32.Next(0x12345678, []byte("other bytes"))
		clear(crc32.Table())
		if mustSum(t, []byte("123456789")) != 0xcbf43926 {
			t.Error("Sum")
		}
		if mustNext(t, 0, []byte{128}) != polynomial {
			t.Error("Next")
		}
		if table := crc32.Table(); table[1] != 1996959894 {
			t.Error("Table")
		}
	}
}
