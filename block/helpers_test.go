package block_test

import (
	"bytes"
	"encoding/binary"
	"hash/crc32"
	"strings"
	"testing"

	"cadenza/api"
	"cadenza/block"
	"cadenza/internal/rows"
)

// mostBytes are the bytes of as many bits as there may be.
const mostBytes = 41250

// bytesOf are the bytes of a text that is filled up.
func bytesOf(text string) []byte { return rows.Bits(text).Bytes }

// noise is n bytes without a pattern that repeats soon; another seed gives others.
func noise(seed, n int) []byte { return bytesOf(rows.Noise(seed, 8*n)) }

// filled is a text with the zeros behind that are missing to a whole byte.
func filled(text string) string {
	for len(text)%8 > 0 {
		text += "0"
	}
	return text
}

// blockOf are some bytes with their sum behind, as the chapter defines it; the sum is that of the standard library.
func blockOf(b []byte) []byte {
	return binary.LittleEndian.AppendUint32(bytes.Clone(b), crc32.ChecksumIEEE(b))
}

// someTexts are short ones of all lengths, and longer ones.
func someTexts() []string {
	l := append(rows.Texts(40), rows.Noise(1, 64), rows.Noise(2, 65), rows.Noise(3, 4001), strings.Repeat("0", 3000), strings.Repeat("1", 3003))
	return append(l, rows.Code([]uint32{5, 2000}), rows.Code(rows.AllSizes(3, 200)))
}

// someBlocks are those of the bytes of the texts.
func someBlocks() [][]byte {
	var l [][]byte
	for _, text := range someTexts() {
		l = append(l, blockOf(bytesOf(text)))
	}
	return l
}

// short are the first ones of some bytes.
func short(p []byte) []byte { return p[:min(len(p), 20)] }

func wantPacked(t *testing.T, b api.Bits, want []byte) {
	t.Helper()
	if p, e := block.Pack(b); e != api.OK || !bytes.Equal(p, want) {
		t.Fatalf("Pack of %d bits, %v: %d bytes, %v, %d; want %d, %v", b.N, short(b.Bytes), len(p), short(p), e, len(want), short(want))
	}
}

func wantNotPacked(t *testing.T, what string, b api.Bits, want api.Errno) {
	t.Helper()
	if p, e := block.Pack(b); e != want || len(p) != 0 {
		t.Fatalf("Pack of %s: %d bytes, %d; want error %d", what, len(p), e, want)
	}
}

func wantUnpacked(t *testing.T, p []byte, want api.Bits) {
	t.Helper()
	if b, e := block.Unpack(p); e != api.OK || !rows.Same(b, want) {
		t.Fatalf("Unpack of %d bytes, %v: %d bits, %v, %d; want %d, %v", len(p), short(p), b.N, short(b.Bytes), e, want.N, short(want.Bytes))
	}
}

func wantNotUnpacked(t *testing.T, what string, p []byte, want api.Errno) {
	t.Helper()
	if b, e := block.Unpack(p); e != want || b.N != 0 || len(b.Bytes) != 0 {
		t.Fatalf("Unpack of %d bytes, %v (%s): %d bits, %d bytes, %d; want error %d", len(p), short(p), what, b.N, len(b.Bytes), e, want)
	}
}

func mustPack(t *testing.T, b api.Bits) []byte {
	t.Helper()
	p, e := block.Pack(b)
	if e != api.OK {
		t.Fatalf("Pack of %d bits, %v: %d", b.N, short(b.Bytes), e)
	}
	return p
}

func mustUnpack(t *testing.T, p []byte) api.Bits {
	t.Helper()
	b, e := block.Unpack(p)
	if e != api.OK {
		t.Fatalf("Unpack of %d bytes, %v: %d", len(p), short(p), e)
	}
	return b
}
