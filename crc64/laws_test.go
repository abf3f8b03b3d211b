package crc64_test

import (
	"bytes"
	"encoding/binary"
	"math/bits"
	"slices"
	"testing"

	"cadenza/api"
	"cadenza/crc64"
	"cadenza/internal/rows"
)

func TestP4_3ChangesTogether(t *testing.T) {
	for n := range 80 {
		for seed := range 10 {
			a, b := noise(seed, n), noise(seed+n+100, n)
			together := mustSum(t, rows.Both(a, b))
			if want := mustSum(t, a) ^ mustSum(t, b); together != want {
				t.Fatalf("%v and %v: %#x, not %#x", a, b, together, want)
			}
		}
	}
	a, b := noise(14, api.MaxFile), noise(15, api.MaxFile)
	if mustSum(t, rows.Both(a, b)) != mustSum(t, a)^mustSum(t, b) {
		t.Error("as many bytes as there may be")
	}
}

func TestP4_3ChangesTogetherForAllPairsOfBytes(t *testing.T) {
	table := crc64.Table()
	for a := range table {
		for b := range table {
			if table[a^b] != table[a]^table[b] {
				t.Fatalf("%d and %d", a, b)
			}
		}
	}
}

func TestP4_3AStateAddsWhatItWouldBeBehindZeros(t *testing.T) {
	for _, n := range []int{0, 1, 2, 7, 8, 9, 31, 64, 300} {
		b := noise(n, n)
		for _, state := range states() {
			next := mustNext(t, state, b)
			if want := mustSum(t, b) ^ mustNext(t, state, make([]byte, n)); next != want {
				t.Fatalf("Next(%#x) of %d bytes = %#x, not %#x", state, n, next, want)
			}
		}
	}
}

func TestP4_3PartsAreTheWhole(t *testing.T) {
	for n := range 40 {
		b := noise(n+50, n)
		for _, state := range states() {
			whole := mustNext(t, state, b)
			for cut := range n + 1 {
				if parts := mustNext(t, mustNext(t, state, b[:cut]), b[cut:]); parts != whole {
					t.Fatalf("%v cut at %d, from %#x: %#x, not %#x", b, cut, state, parts, whole)
				}
			}
		}
	}
}

func TestP4_3PartsOfAnySizeAreTheWhole(t *testing.T) {
	b := noise(8, api.MaxFile)
	whole := mustSum(t, b)
	for _, size := range []int{1, 2, 3, 7, 255, 256, 4093, api.MaxFile - 1} {
		state := uint64(0)
		for part := range slices.Chunk(b, size) {
			state = mustNext(t, state, part)
		}
		if state != whole {
			t.Errorf("parts of %d bytes: %#x, not %#x", size, state, whole)
		}
	}
}

func TestP4_3ZerosInFrontDoNotChangeASum(t *testing.T) {
	for n := range 30 {
		b := noise(n+70, n)
		sum := mustSum(t, b)
		for _, zeros := range []int{1, 2, 7, 8, 9, 63, 64, 65, 1000, api.MaxFile - n} {
			if longer := mustSum(t, append(make([]byte, zeros), b...)); longer != sum {
				t.Fatalf("%d zeros in front of %v: %#x, not %#x", zeros, b, longer, sum)
			}
		}
		// They are bytes nonetheless: with too many there is no sum.
		if none, e := crc64.Sum(append(make([]byte, api.MaxFile+1-n), b...)); none != 0 || e != api.ErrMany {
			t.Fatalf("too many zeros in front of %v: %#x, %d", b, none, e)
		}
	}
}

func TestP4_3ShortStringsHaveOtherSums(t *testing.T) {
	seen := map[uint64][]byte{}
	for a := range 256 {
		for b := range 256 {
			two := []byte{byte(a), byte(b)}
			sum := mustSum(t, two)
			if other, ok := seen[sum]; ok {
				t.Fatalf("%v and %v: both %#x", two, other, sum)
			}
			seen[sum] = two
		}
	}
	for n := 3; n <= 8; n++ {
		seen, found := map[uint64]string{}, 0
		for seed := range 3000 {
			text := string(noise(seed, n))
			sum := mustSum(t, []byte(text))
			if other, ok := seen[sum]; ok && other != text {
				t.Fatalf("%q and %q: both %#x", text, other, sum)
			}
			if _, ok := seen[sum]; !ok {
				found++
			}
			seen[sum] = text
		}
		if found < 2900 {
			t.Errorf("only %d texts of %d bytes", found, n)
		}
	}
}

// independent tells how many of the numbers are no exclusive or of those in front of them.
func independent(numbers []uint64) int {
	var led [65]uint64
	n := 0
	for _, x := range numbers {
		for x != 0 && led[bits.Len64(x)] != 0 {
			x ^= led[bits.Len64(x)]
		}
		if x != 0 {
			led[bits.Len64(x)] = x
			n++
		}
	}
	return n
}

// As it is linear, strings of a length have other sums just if no sums of single bits give 0 together.
func TestP4_3AllStringsOfUpTo8BytesHaveOtherSums(t *testing.T) {
	for n := range 10 {
		var sums []uint64
		for at := range 8 * n {
			sums = append(sums, mustSum(t, burst(n, at, 1)))
		}
		if got, want := independent(sums), min(8*n, 64); got != want {
			t.Errorf("%d bytes: %d of %d sums are independent; want %d", n, got, 8*n, want)
		}
	}
}

// Each pattern of up to 16 bits is tried at each place.
func TestP4_3ShortBurstsChangeTheSum(t *testing.T) {
	const size = 10
	b := noise(2, size)
	sum := mustSum(t, b)
	for pattern := uint64(1); pattern < 1<<16; pattern += 2 {
		for at := range 8*size - 15 {
			if mustSum(t, rows.Both(b, burst(size, at, pattern))) == sum {
				t.Fatalf("pattern %#x at %d", pattern, at)
			}
		}
	}
}

func TestP4_3BurstsOfUpTo64BitsChangeTheSum(t *testing.T) {
	const size = 40
	patterns := []uint64{1, 3, 0x8000000000000001, 0xffffffffffffffff, polynomial, bits.Reverse64(polynomial), 0xaaaaaaaaaaaaaaab, 0x5555555555555555}
	for eight := range slices.Chunk(noise(6, 1600), 8) {
		patterns = append(patterns, binary.LittleEndian.Uint64(eight)|1)
	}
	for _, b := range [][]byte{make([]byte, size), bytes.Repeat([]byte{255}, size), noise(9, size)} {
		sum := mustSum(t, b)
		for _, pattern := range patterns {
			for at := range 8*size - 63 {
				if mustSum(t, rows.Both(b, burst(size, at, pattern))) == sum {
					t.Fatalf("pattern %#x at %d", pattern, at)
				}
			}
		}
	}
}

// There is one pattern of 65 bits that the sum does not see: the divisor itself. It shows that 64 bits are the most.
func TestP4_3TheDivisorAloneIsNotSeen(t *testing.T) {
	const size = 24
	b := noise(13, size)
	sum := mustSum(t, b)
	for at := range 8*size - 64 {
		divisor := rows.Both(burst(size, at, 1), burst(size, at+1, bits.Reverse64(polynomial)))
		if mustSum(t, rows.Both(b, divisor)) != sum {
			t.Fatalf("at %d the sum is another one", at)
		}
	}
}

func TestP4_3SingleBitsOfALongStringChangeTheSum(t *testing.T) {
	b := noise(21, api.MaxFile)
	sum := mustSum(t, b)
	for _, at := range []int{0, 1, 7, 8, 63, 64, 8*api.MaxFile - 65, 8*api.MaxFile - 2, 8*api.MaxFile - 1, 8 * 50000, 123457} {
		b[at/8] ^= 128 >> (at % 8)
		if mustSum(t, b) == sum {
			t.Errorf("bit %d", at)
		}
		b[at/8] ^= 128 >> (at % 8)
	}
}

func TestP1ArgumentsAreOnlyRead(t *testing.T) {
	whole := noise(30, 64)
	before := slices.Clone(whole)
	for n := range len(whole) + 1 {
		crc64.Next(polynomial, whole[:n])
		crc64.Sum(whole[:n])
		if !bytes.Equal(whole, before) {
			t.Fatalf("with %d bytes: %v", n, whole)
		}
	}
	many := noise(31, api.MaxFile+1)
	before = slices.Clone(many)
	crc64.Next(polynomial, many)
	crc64.Sum(many)
	if !bytes.Equal(many, before) {
		t.Error("too many bytes changed")
	}
}

func TestP1OnlyTheLengthCounts(t *testing.T) {
	whole := noise(32, 40)
	for n := range len(whole) {
		alone := slices.Clip(slices.Clone(whole[:n]))
		if mustSum(t, whole[:n]) != mustSum(t, alone) || mustNext(t, 5, whole[:n]) != mustNext(t, 5, alone) {
			t.Fatalf("%d bytes with others behind", n)
		}
	}
}

func TestP1NothingIsKeptFromCallToCall(t *testing.T) {
	for range 3 {
		crc64.Sum(make([]byte, api.MaxFile+1))
		crc64.Next(77, make([]byte, api.MaxFile+1))
		crc64.Next(0x123456789abcdef0, []byte("other bytes"))
		clear(crc64.Table())
		if mustSum(t, []byte("123456789")) != 0x6c40df5f0b497347 {
			t.Error("Sum")
		}
		if mustNext(t, 0, []byte{1}) != polynomial {
			t.Error("Next")
		}
		if table := crc64.Table(); table[1] != polynomial {
			t.Error("Table")
		}
	}
}
