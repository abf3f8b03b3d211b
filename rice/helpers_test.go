package rice_test

import (
	"math"
	"testing"

	"cadenza/api"
	"cadenza/internal/rows"
	"cadenza/rice"
)

// badParameters are none; some would be one if they were cut to fewer bits, or their sign lost.
var badParameters = []int{math.MinInt, math.MinInt + 3, -1 << 32, -256, -24, -2, -1, 25, 26, 31, 32, 33, 48, 63, 64, 65, 128, 255, 256, 260, 1 << 16, 1 << 32, 1<<32 + 3, math.MaxInt - 1, math.MaxInt}

func wantWritten(t *testing.T, head string, v uint32, k int) {
	t.Helper()
	b, e := rice.Write(rows.Bits(head), v, k)
	if e != api.OK || !rows.Same(b, rows.Bits(head+rows.Rice(v, k))) {
		t.Fatalf("Write(%q, %d, %d) = %v, %d", head, v, k, b, e)
	}
}

func wantNotWritten(t *testing.T, what string, b api.Bits, v uint32, k int, want api.Errno) {
	t.Helper()
	c, e := rice.Write(b, v, k)
	if e != want || c.N != 0 || len(c.Bytes) != 0 {
		t.Fatalf("Write of %d with %d behind %s: %d bits, %d bytes, %d; want error %d", v, k, what, c.N, len(c.Bytes), e, want)
	}
}

func wantRead(t *testing.T, what string, b api.Bits, at, k int, want uint32, wantNext int) {
	t.Helper()
	v, next, e := rice.Read(b, at, k)
	if e != api.OK || v != want || next != wantNext {
		t.Fatalf("Read of %s at %d with %d = %d, %d, %d; want %d, %d", what, at, k, v, next, e, want, wantNext)
	}
}

func wantNotRead(t *testing.T, what string, b api.Bits, at, k int, want api.Errno) {
	t.Helper()
	v, next, e := rice.Read(b, at, k)
	if e != want || v != 0 || next != 0 {
		t.Fatalf("Read of %s at %d with %d = %d, %d, %d; want error %d", what, at, k, v, next, e, want)
	}
}

func mustLength(t *testing.T, v uint32, k int) int {
	t.Helper()
	length, e := rice.Length(v, k)
	if e != api.OK {
		t.Fatalf("Length(%d, %d): %d", v, k, e)
	}
	return length
}

// mustWrite are bits with the code of a number behind them, as Write makes it.
func mustWrite(t *testing.T, b api.Bits, v uint32, k int) api.Bits {
	t.Helper()
	c, e := rice.Write(b, v, k)
	if e != api.OK {
		t.Fatalf("Write(%d bits, %d, %d): %d", b.N, v, k, e)
	}
	return c
}
