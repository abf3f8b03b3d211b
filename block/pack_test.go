package block_test

import (
	"math"
	"strings"
	"testing"

	"cadenza/api"
	"cadenza/block"
	"cadenza/internal/rows"
)

func TestP11_1SizeExamples(t *testing.T) {
	for n, want := range map[int]int{0: 4, 1: 5, 7: 5, 8: 5, 9: 6, 16: 6, 17: 7, 24: 7, 25: 8, 72: 13, api.MaxBits - 8: 41253, api.MaxBits - 7: 41254, api.MaxBits: 41254} {
		if size, e := block.Size(n); e != api.OK || size != want {
			t.Errorf("Size(%d) = %d, %d; want %d", n, size, e, want)
		}
	}
}

func TestP11_1SizeOfEachNumberOfBits(t *testing.T) {
	want := 4
	for n := range api.MaxBits + 1 {
		// A byte more is needed where the bits before fill all bytes.
		if n%8 == 1 {
			want++
		}
		if size, e := block.Size(n); e != api.OK || size != want {
			t.Fatalf("Size(%d) = %d, %d; want %d", n, size, e, want)
		}
	}
}

func TestP11_1SizeOfNoNumberOfBits(t *testing.T) {
	// Some would be one if they were cut to fewer bits, or their sign lost.
	bad := append(rows.BadIndexes(), -7, -9, -32, -api.MaxBits, -1<<31, api.MaxBits+1, api.MaxBits+2, api.MaxBits+7, api.MaxBits+8, 8*api.MaxBits, 1<<20, 1<<31, 1<<32, 1<<32+1, 1<<32+72, math.MaxInt-8, math.MaxInt-7, math.MaxInt-1, math.MaxInt)
	for _, n := range bad {
		if size, e := block.Size(n); e != api.ErrArg || size != 0 {
			t.Errorf("Size(%d) = %d, %d; want error %d", n, size, e, api.ErrArg)
		}
	}
}

func TestP11_1SizeIsHowManyBytesABlockHas(t *testing.T) {
	all := rows.Noise(7, api.MaxBits)
	for _, n := range []int{0, 1, 2, 7, 8, 9, 15, 16, 17, 1000, 1001, 329991, 329992, 329993, 329999, api.MaxBits} {
		size, e := block.Size(n)
		if p := mustPack(t, rows.Bits(all[:n])); e != api.OK || len(p) != size {
			t.Errorf("Size(%d) = %d, %d, but the block has %d bytes", n, size, e, len(p))
		}
	}
}

func TestP11_1PackExamples(t *testing.T) {
	for _, b := range []api.Bits{{}, {Bytes: []byte{}}, {Bytes: []byte{7, 8, 9, 9, 9}[:0]}} {
		wantPacked(t, b, []byte{0, 0, 0, 0})
	}
	wantPacked(t, rows.Bits("00000000"), []byte{0, 141, 239, 2, 210})
	for n := 1; n < 8; n++ {
		// Filled up they are the same bits.
		wantPacked(t, rows.Bits(strings.Repeat("0", n)), []byte{0, 141, 239, 2, 210})
	}
	wantPacked(t, rows.Bits("11111111"), []byte{255, 0, 0, 0, 255})
	wantPacked(t, rows.Bits(strings.Repeat("1", 32)), []byte{255, 255, 255, 255, 255, 255, 255, 255})
	wantPacked(t, api.Bits{Bytes: []byte("123456789"), N: 72}, []byte("123456789\x26\x39\xf4\xcb"))
	wantPacked(t, api.Bits{Bytes: []byte("a"), N: 7}, []byte("a\x43\xbe\xb7\xe8"))
	wantPacked(t, rows.Bits("0"+"1010000000"+"1"+"10"+"0000101110"), blockOf([]byte{10, 24, 116}))
}

func TestP11_1PackOfAllShortBits(t *testing.T) {
	for length := range 14 {
		for x := range uint64(1) << length {
			text := rows.Digits(x, length)
			wantPacked(t, rows.Bits(text), blockOf(bytesOf(text)))
		}
	}
}

func TestP11_1PackOfLongerBits(t *testing.T) {
	for _, text := range someTexts() {
		wantPacked(t, rows.Bits(text), blockOf(bytesOf(text)))
	}
	for n := 4000; n < 4300; n++ {
		text := rows.Noise(n, n)
		wantPacked(t, rows.Bits(text), blockOf(bytesOf(text)))
	}
}

func TestP11_1PackUpToTheLimit(t *testing.T) {
	for less := range 20 {
		b := rows.Full(less)
		wantPacked(t, b, blockOf(b.Bytes))
	}
	zeros := api.Bits{Bytes: make([]byte, mostBytes), N: api.MaxBits}
	wantPacked(t, zeros, blockOf(zeros.Bytes))
}

func TestP11_1PackRefusesBitsThatAreNotValid(t *testing.T) {
	for what, b := range rows.Broken() {
		wantNotPacked(t, what, b, api.ErrBad)
	}
	for text := range strings.SplitSeq("1 01 0110101 11111111 000000001", " ") {
		b := rows.Bits(text)
		wantNotPacked(t, text+" and N a byte more", api.Bits{Bytes: b.Bytes, N: b.N + 8}, api.ErrBad)
		wantNotPacked(t, text+" and a byte more", api.Bits{Bytes: append(b.Bytes, 0), N: b.N}, api.ErrBad)
		wantNotPacked(t, text+" and N one less", api.Bits{Bytes: b.Bytes, N: b.N - 1}, api.ErrBad)
	}
}
