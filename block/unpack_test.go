package block_test

import (
	"bytes"
	"encoding/binary"
	"hash/crc32"
	"math"
	"slices"
	"testing"

	"cadenza/api"
	"cadenza/internal/rows"
)

func TestP11_2Examples(t *testing.T) {
	wantUnpacked(t, []byte{0, 0, 0, 0}, api.Bits{})
	wantUnpacked(t, []byte{0, 141, 239, 2, 210}, rows.Bits("00000000"))
	wantUnpacked(t, []byte{255, 0, 0, 0, 255}, rows.Bits("11111111"))
	wantUnpacked(t, []byte("123456789\x26\x39\xf4\xcb"), api.Bits{Bytes: []byte("123456789"), N: 72})
	wantNotUnpacked(t, "the sum the other way about", []byte("123456789\xcb\xf4\x39\x26"), api.ErrSum)
	wantNotUnpacked(t, "another byte", []byte("123456780\x26\x39\xf4\xcb"), api.ErrSum)
}

func TestP11_2AllBitsOfABlock(t *testing.T) {
	for _, text := range someTexts() {
		wantUnpacked(t, blockOf(bytesOf(text)), rows.Bits(filled(text)))
	}
	for length := range 200 {
		b := noise(length, length)
		wantUnpacked(t, blockOf(b), api.Bits{Bytes: b, N: 8 * length})
	}
	for x := range 1 << 16 {
		b := []byte{byte(x), byte(x >> 8)}
		wantUnpacked(t, blockOf(b), api.Bits{Bytes: b, N: 16})
		wantUnpacked(t, blockOf(b[:1]), api.Bits{Bytes: b[:1], N: 8})
	}
}

func TestP11_2FewerThanFourBytes(t *testing.T) {
	wantNotUnpacked(t, "nil", nil, api.ErrShort)
	wantNotUnpacked(t, "empty", []byte{}, api.ErrShort)
	for length := range 4 {
		// Behind the length there are the bytes of a block, which do not count.
		wantNotUnpacked(t, "a part of the block of no bits", make([]byte, 9)[:length], api.ErrShort)
		for _, p := range someBlocks() {
			wantNotUnpacked(t, "a part of a block", p[:length], api.ErrShort)
			wantNotUnpacked(t, "a part of a block", slices.Clip(p[:length]), api.ErrShort)
		}
		wantNotUnpacked(t, "ones", bytes.Repeat([]byte{255}, length), api.ErrShort)
	}
}

func TestP11_2TooManyBytes(t *testing.T) {
	for _, n := range []int{mostBytes + 1, mostBytes + 2, mostBytes + 4, mostBytes + 5, 1 << 16, 99996, 99997, api.MaxFile, api.MaxFile + 1, api.MaxFile + 4, api.MaxBits, 1 << 20} {
		wantNotUnpacked(t, "with the right sum", blockOf(noise(n, n)), api.ErrMany)
		wantNotUnpacked(t, "zeros with the right sum", blockOf(make([]byte, n)), api.ErrMany)
		wantNotUnpacked(t, "with another sum", make([]byte, n+4), api.ErrMany)
		wantNotUnpacked(t, "ones", bytes.Repeat([]byte{255}, n+4), api.ErrMany)
	}
}

func TestP11_2AsManyBytesAsThereMayBe(t *testing.T) {
	all := noise(4, mostBytes+100)
	for _, n := range []int{mostBytes - 2, mostBytes - 1, mostBytes} {
		p := append(blockOf(all[:n]), 1, 2, 3, 4, 5)[:n+4]
		wantUnpacked(t, p, api.Bits{Bytes: all[:n], N: 8 * n})
		wantNotUnpacked(t, "with another sum", all[:n+4], api.ErrSum)
		wantNotUnpacked(t, "zeros", make([]byte, n+4), api.ErrSum)
	}
}

func TestP11_2OtherSums(t *testing.T) {
	for _, p := range someBlocks() {
		data := p[:len(p)-4]
		sum := crc32.ChecksumIEEE(data)
		others := []uint32{sum + 1, sum - 1, ^sum, -sum, sum << 1, sum >> 1, sum ^ 0xdebb20e3, crc32.ChecksumIEEE(p), crc32.Checksum(data, crc32.MakeTable(crc32.Castagnoli)), 0, 1, math.MaxUint32}
		for i := range 32 {
			others = append(others, sum^1<<i)
		}
		for other := range uint32(256) {
			for i := range 4 {
				others = append(others, sum&^(255<<(8*i))|other<<(8*i))
			}
		}
		for _, other := range others {
			if other != sum {
				wantNotUnpacked(t, "another sum", binary.LittleEndian.AppendUint32(bytes.Clone(data), other), api.ErrSum)
			}
		}
	}
}

func TestP11_2TheSumInAnotherOrderOrPlace(t *testing.T) {
	for _, p := range someBlocks() {
		data, sum := p[:len(p)-4], p[len(p)-4:]
		for _, order := range [][]int{{3, 2, 1, 0}, {1, 0, 3, 2}, {2, 3, 0, 1}, {1, 0, 2, 3}, {0, 1, 3, 2}, {0, 2, 1, 3}, {3, 0, 1, 2}, {1, 2, 3, 0}} {
			other := []byte{sum[order[0]], sum[order[1]], sum[order[2]], sum[order[3]]}
			if !bytes.Equal(other, sum) {
				wantNotUnpacked(t, "the sum in another order", slices.Concat(data, other), api.ErrSum)
			}
		}
		if front := slices.Concat(sum, data); !bytes.Equal(front, p) && !bytes.Equal(front, blockOf(front[:len(data)])) {
			wantNotUnpacked(t, "the sum in front", front, api.ErrSum)
		}
	}
}

func TestP11_2AByteMoreOrLess(t *testing.T) {
	for _, p := range someBlocks() {
		for _, x := range []byte{0, 1, 10, 128, 255} {
			wantAsDefined(t, append(bytes.Clone(p), x))
			wantAsDefined(t, append([]byte{x}, p...))
		}
		wantAsDefined(t, p[:len(p)-1])
		wantAsDefined(t, p[1:])
	}
}

func TestP11_2BytesWithoutAPattern(t *testing.T) {
	for seed := range 4000 {
		wantAsDefined(t, noise(seed, seed%70))
	}
	for x := range 1 << 16 {
		wantAsDefined(t, []byte{byte(x), byte(x >> 8), 0, 0})
		wantAsDefined(t, []byte{0, 141, 239, byte(x), byte(x >> 8)})
	}
}

// wantAsDefined unpacks bytes, as the chapter defines it.
func wantAsDefined(t *testing.T, p []byte) {
	t.Helper()
	if len(p) < 4 {
		wantNotUnpacked(t, "too few", p, api.ErrShort)
		return
	}
	if len(p) > mostBytes+4 {
		wantNotUnpacked(t, "too many", p, api.ErrMany)
		return
	}
	data := p[:len(p)-4]
	if !bytes.Equal(p, blockOf(data)) {
		wantNotUnpacked(t, "no block", p, api.ErrSum)
		return
	}
	wantUnpacked(t, p, api.Bits{Bytes: data, N: 8 * len(data)})
}
