package crc64_test

import (
	"math"
	"slices"
	"testing"

	"cadenza/api"
	"cadenza/crc64"
)

func TestP4_1TableExamples(t *testing.T) {
	table := crc64.Table()
	if len(table) != 256 {
		t.Fatalf("%d numbers", len(table))
	}
	for i, want := range map[int]uint64{0: 0, 1: polynomial, 2: 0x85e1c3d753d46d26, 3: 0xc711223cfa3e5bb5, 255: 0x9afce626ce85b507} {
		if table[i] != want {
			t.Errorf("Table()[%d] = %#x; want %#x", i, table[i], want)
		}
	}
}

func TestP4_1TableIsOfSumsOfBytes(t *testing.T) {
	for i, n := range crc64.Table() {
		b := []byte{byte(i)}
		if want := behind(0, b); n != want || n != mirrored(0, b) {
			t.Fatalf("Table()[%d] = %#x; want %#x", i, n, want)
		}
		if sum := mustSum(t, b); n != sum {
			t.Fatalf("Table()[%d] = %#x, but Sum gives %#x", i, n, sum)
		}
	}
}

func TestP4_1TableIsANewListEachTime(t *testing.T) {
	want := slices.Clone(crc64.Table())
	one, other := crc64.Table(), crc64.Table()
	for i := range one {
		one[i] = 7
	}
	_ = append(one, 9)
	if !slices.Equal(other, want) || !slices.Equal(crc64.Table(), want) {
		t.Error("a table changed with another one")
	}
	if mustSum(t, []byte("123456789")) != 0x6c40df5f0b497347 {
		t.Error("a sum changed with a table")
	}
}

func TestP4_2SumExamples(t *testing.T) {
	for text, want := range map[string]uint64{
		"":          0,
		"\x00":      0,
		"\x01":      0x42f0e1eba9ea3693,
		"\x00\x01":  0x42f0e1eba9ea3693,
		"123456789": 0x6c40df5f0b497347,
		"\x80":      0xf6fae5c07d3274cd,
		"a":         0x548f120162451c62,
		"abc":       0x66501a349a0e0855,
	} {
		if sum := mustSum(t, []byte(text)); sum != want {
			t.Errorf("Sum(%q) = %#x; want %#x", text, sum, want)
		}
	}
}

func TestP4_2NothingBehindIsTheSameState(t *testing.T) {
	room := noise(3, 20)
	for _, state := range states() {
		for _, b := range [][]byte{nil, {}, room[:0], room[20:]} {
			if next := mustNext(t, state, b); next != state {
				t.Fatalf("Next(%#x) of nothing = %#x", state, next)
			}
		}
	}
	if mustSum(t, nil) != 0 || mustSum(t, []byte{}) != 0 || mustSum(t, room[:0]) != 0 {
		t.Error("the sum of no bytes is not 0")
	}
}

func TestP4_2NextAgreesWithTheDefinition(t *testing.T) {
	for _, state := range states() {
		for x := range 256 {
			b := []byte{byte(x)}
			if next, want := mustNext(t, state, b), behind(state, b); next != want {
				t.Fatalf("Next(%#x, %v) = %#x; want %#x", state, b, next, want)
			}
		}
		for n := range 50 {
			b := noise(n, n)
			if next, want := mustNext(t, state, b), behind(state, b); next != want || next != mirrored(state, b) {
				t.Fatalf("Next(%#x, %v) = %#x; want %#x", state, b, next, want)
			}
		}
	}
}

func TestP4_2SumIsTheStateBehindFromZeroOn(t *testing.T) {
	for n := range 600 {
		b := noise(n+5, n)
		sum := mustSum(t, b)
		if want := mirrored(0, b); sum != want {
			t.Fatalf("Sum(%d bytes) = %#x; want %#x", n, sum, want)
		}
		if state := mustNext(t, 0, b); sum != state {
			t.Fatalf("Sum(%v) = %#x, but the state is %#x", b, sum, state)
		}
	}
}

func TestP4_2AsManyBytesAsThereMayBe(t *testing.T) {
	b := noise(1, api.MaxFile+100)
	for _, n := range []int{1 << 16, api.MaxFile - 1, api.MaxFile} {
		// The capacity is greater than MaxFile: only the length counts.
		if sum, want := mustSum(t, b[:n]), mirrored(0, b[:n]); sum != want {
			t.Errorf("Sum of %d bytes = %#x; want %#x", n, sum, want)
		}
		for _, state := range []uint64{0, math.MaxUint64, 0x123456789abcdef0} {
			if next, want := mustNext(t, state, b[:n]), mirrored(state, b[:n]); next != want {
				t.Errorf("Next(%#x) of %d bytes = %#x; want %#x", state, n, next, want)
			}
		}
	}
}

func TestP4_2MoreBytesThanThereMayBe(t *testing.T) {
	for _, n := range []int{api.MaxFile + 1, api.MaxFile + 2, 1 << 17, 2 * api.MaxFile, 1 << 20} {
		for _, b := range [][]byte{make([]byte, n), noise(n, n)} {
			if sum, e := crc64.Sum(b); sum != 0 || e != api.ErrMany {
				t.Errorf("Sum of %d bytes = %#x, %d", n, sum, e)
			}
			for _, state := range states() {
				if next, e := crc64.Next(state, b); next != 0 || e != api.ErrMany {
					t.Fatalf("Next(%#x) of %d bytes = %#x, %d", state, n, next, e)
				}
			}
		}
	}
}

// The limit is for one call: parts may have more bytes together.
func TestP4_2PartsMayBeMoreTogether(t *testing.T) {
	b := noise(4, api.MaxFile)
	state := mustNext(t, mustNext(t, 0, b), b)
	if want := mirrored(mirrored(0, b), b); state != want {
		t.Errorf("%#x; want %#x", state, want)
	}
}
