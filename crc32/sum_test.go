package crc32_test

import (
	stdcrc32 "hash/crc32"
	"slices"
	"testing"

	"cadenza/api"
	"cadenza/crc32"
)

func TestP3_1TableExamples(t *testing.T) {
	table := crc32.Table()
	if len(table) != 256 {
		t.Fatalf("%d numbers", len(table))
	}
	for i, want := range map[int]uint32{0: 0, 1: 1996959894, 2: 3993919788, 3: 2567524794, 128: polynomial, 255: 0x2d02ef8d} {
		if table[i] != want {
			t.Errorf("Table()[%d] = %d; want %d", i, table[i], want)
		}
	}
}

func TestP3_1TableIsOfStatesBehindAByte(t *testing.T) {
	table := crc32.Table()
	if !slices.Equal(table, stdcrc32.IEEETable[:]) {
		t.Fatalf("Table() = %v", table)
	}
	for i, n := range table {
		b := []byte{byte(i)}
		if want := behind(0, b); n != want {
			t.Fatalf("Table()[%d] = %#x; want %#x", i, n, want)
		}
		if next := mustNext(t, 0, b); n != next {
			t.Fatalf("Table()[%d] = %#x, but Next gives %#x", i, n, next)
		}
	}
}

func TestP3_1TableIsANewListEachTime(t *testing.T) {
	want := slices.Clone(stdcrc32.IEEETable[:])
	one, other := crc32.Table(), crc32.Table()
	for i := range one {
		one[i] = 7
	}
	_ = append(one, 9)
	if !slices.Equal(other, want) || !slices.Equal(crc32.Table(), want) {
		t.Error("a table changed with another one")
	}
	if mustSum(t, []byte("123456789")) != 0xcbf43926 {
		t.Error("a sum changed with a table")
	}
}

func TestP3_2SumExamples(t *testing.T) {
	for text, want := range map[string]uint32{
		"":                 0,
		"123456789":        3421780262,
		"a":                0xe8b7be43,
		"abc":              0x352441c2,
		"\x00":             0xd202ef8d,
		"\xff":             0xff000000,
		"\x00\x00\x00\x00": 0x2144df1c,
		"\xff\xff\xff\xff": 0xffffffff,
		"The quick brown fox jumps over the lazy dog": 0x414fa339,
	} {
		if sum := mustSum(t, []byte(text)); sum != want {
			t.Errorf("Sum(%q) = %#x; want %#x", text, sum, want)
		}
	}
}

func TestP3_2NothingBehindIsTheSameState(t *testing.T) {
	room := noise(3, 20)
	for _, state := range states() {
		for _, b := range [][]byte{nil, {}, room[:0], room[20:]} {
			if next := mustNext(t, state, b); next != state {
				t.Fatalf("Next(%#x) of nothing = %#x", state, next)
			}
		}
	}
	if mustSum(t, nil) != 0 || mustSum(t, []byte{}) != 0 || mustSum(t, room[:0]) != 0 {
		t.Error("the sum of no bytes is not 0")
	}
}

func TestP3_2NextAgreesWithTheDefinition(t *testing.T) {
	for _, state := range states() {
		for x := range 256 {
			b := []byte{byte(x)}
			if next, want := mustNext(t, state, b), behind(state, b); next != want {
				t.Fatalf("Next(%#x, %v) = %#x; want %#x", state, b, next, want)
			}
		}
		for n := range 70 {
			b := noise(n, n)
			if next, want := mustNext(t, state, b), behind(state, b); next != want {
				t.Fatalf("Next(%#x, %v) = %#x; want %#x", state, b, next, want)
			}
		}
	}
}

func TestP3_2SumAgreesWithTheDefinition(t *testing.T) {
	for n := range 600 {
		b := noise(n, n)
		sum := mustSum(t, b)
		if want := first - behind(first, b); sum != want || sum != stdcrc32.ChecksumIEEE(b) {
			t.Fatalf("Sum(%d bytes) = %#x; want %#x", n, sum, want)
		}
	}
}

func TestP3_2SumIsTheStateBehindWithAllBitsChanged(t *testing.T) {
	for n := range 100 {
		b := noise(n+5, n)
		if sum, state := mustSum(t, b), mustNext(t, first, b); sum != ^state {
			t.Fatalf("Sum(%v) = %#x, but the state is %#x", b, sum, state)
		}
	}
}

func TestP3_2AsManyBytesAsThereMayBe(t *testing.T) {
	b := noise(1, api.MaxFile+100)
	for _, n := range []int{1 << 16, api.MaxFile - 1, api.MaxFile} {
		// The capacity is greater than MaxFile: only the length counts.
		if sum, want := mustSum(t, b[:n]), stdcrc32.ChecksumIEEE(b[:n]); sum != want {
			t.Errorf("Sum of %d bytes = %#x; want %#x", n, sum, want)
		}
		for _, state := range []uint32{0, first, 0x12345678} {
			if next, want := mustNext(t, state, b[:n]), behind(state, b[:n]); next != want {
				t.Errorf("Next(%#x) of %d bytes = %#x; want %#x", state, n, next, want)
			}
		}
	}
}

func TestP3_2MoreBytesThanThereMayBe(t *testing.T) {
	for _, n := range []int{api.MaxFile + 1, api.MaxFile + 2, 1 << 17, 2 * api.MaxFile, 1 << 20} {
		for _, b := range [][]byte{make([]byte, n), noise(n, n)} {
			if sum, e := crc32.Sum(b); sum != 0 || e != api.ErrMany {
				t.Errorf("Sum of %d bytes = %#x, %d", n, sum, e)
			}
			for _, state := range states() {
				if next, e := crc32.Next(state, b); next != 0 || e != api.ErrMany {
					t.Fatalf("Next(%#x) of %d bytes = %#x, %d", state, n, next, e)
				}
			}
		}
	}
}

// The limit is for one call: parts may have more bytes together.
func TestP3_2PartsMayBeMoreTogether(t *testing.T) {
	b := noise(4, api.MaxFile)
	state := mustNext(t, mustNext(t, first, b), b)
	if want := behind(behind(first, b), b); state != want {
		t.Errorf("%#x; want %#x", state, want)
	}
}
