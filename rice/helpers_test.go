package rice_test

import (
	"math"
	"strings"
	"testing"

	"cadenza/api"
	"cadenza/internal/rows"
	"cadenza/rice"
)

// badParameters are none; some would be one if they were cut to fewer bits, or their sign lost.
var badParameters = []int{math.MinInt, math.MinInt + 3, -1 << 32, -256, -24, -2, -1, 25, 26, 31, 32, 33, 48, 63, 64, 65, 128, 255, 256, 260, 1 << 16, 1 << 32, 1<<32 + 3, math.MaxInt - 1, math.MaxInt}

// power is 2 to the power of n.
func power(n int) uint64 {
	p := uint64(1)
	for range n {
		p *= 2
	}
	return p
}

// digits are the n lowest bits of a number as a text, the lowest one in front.
func digits(v uint64, n int) string {
	var text strings.Builder
	for range n {
		text.WriteByte('0' + byte(v%2))
		v /= 2
	}
	return text.String()
}

// code is the code of a number as a text of zeros and ones, as the chapter defines it.
func code(v uint32, k int) string {
	q := uint64(v) / power(k)
	if q < 48 {
		return strings.Repeat("1", int(q)) + "0" + digits(uint64(v), k)
	}
	return strings.Repeat("1", 48) + digits(uint64(v), 32)
}

// numbers are the least and the greatest ones of all, and of each run with a parameter, powers of 2 with their neighbours, and some without a pattern.
func numbers(k int) []uint32 {
	l := []uint32{0, 1, 2, 3, 5, 9, 1000, 0x55555555, 0xaaaaaaaa, math.MaxUint32 - 1, math.MaxUint32}
	for q := range uint64(52) {
		first := uint32(q * power(k))
		l = append(l, first-1, first, first+1)
	}
	for i := range 32 {
		p := uint32(power(i))
		l = append(l, p-1, p, p+1)
	}
	return append(l, noise(k, 30)...)
}

// noise is n numbers of all sizes without a pattern that repeats soon; another seed gives others.
func noise(seed, n int) []uint32 {
	l := make([]uint32, n)
	x := uint64(seed)*0x9e3779b97f4a7c15 + 12345
	for i := range l {
		x = x*6364136223846793005 + 1442695040888963407
		l[i] = uint32(x>>32) >> (x >> 20 % 32)
	}
	return l
}

// firstCode is what a code at the beginning of a text stands for, and how long it is; its error if there is none.
func firstCode(text string, k int) (v uint32, length int, e api.Errno) {
	q := len(text) - len(strings.TrimLeft(text, "1"))
	length = q + 1 + k
	if q >= 48 {
		q, length = 0, 80
	}
	if len(text) < length {
		return 0, 0, api.ErrShort
	}
	low := text[length-k : length]
	if length == 80 {
		low = text[48:80]
	}
	n := uint64(0)
	for i, digit := range low {
		n += uint64(digit-'0') * power(i)
	}
	if length == 80 && n < 48*power(k) {
		return 0, 0, api.ErrForm
	}
	return uint32(uint64(q)*power(k) + n), length, api.OK
}

func wantWritten(t *testing.T, head string, v uint32, k int) {
	t.Helper()
	b, e := rice.Write(rows.Bits(head), v, k)
	if e != api.OK || !rows.Same(b, rows.Bits(head+code(v, k))) {
		t.Fatalf("Write(%q, %d, %d) = %v, %d", head, v, k, b, e)
	}
}

func wantNotWritten(t *testing.T, what string, b api.Bits, v uint32, k int, want api.Errno) {
	t.Helper()
	c, e := rice.Write(b, v, k)
	if e != want || c.N != 0 || len(c.Bytes) != 0 {
		t.Fatalf("Write of %d with %d behind %s: %d bits, %d bytes, %d; want error %d", v, k, what, c.N, len(c.Bytes), e, want)
	}
}

func wantRead(t *testing.T, what string, b api.Bits, at, k int, want uint32, wantNext int) {
	t.Helper()
	v, next, e := rice.Read(b, at, k)
	if e != api.OK || v != want || next != wantNext {
		t.Fatalf("Read of %s at %d with %d = %d, %d, %d; want %d, %d", what, at, k, v, next, e, want, wantNext)
	}
}

func wantNotRead(t *testing.T, what string, b api.Bits, at, k int, want api.Errno) {
	t.Helper()
	v, next, e := rice.Read(b, at, k)
	if e != want || v != 0 || next != 0 {
		t.Fatalf("Read of %s at %d with %d = %d, %d, %d; want error %d", what, at, k, v, next, e, want)
	}
}

func mustLength(t *testing.T, v uint32, k int) int {
	t.Helper()
	length, e := rice.Length(v, k)
	if e != api.OK {
		t.Fatalf("Length(%d, %d): %d", v, k, e)
	}
	return length
}

// mustWrite are bits with the code of a number behind them, as Write makes it.
func mustWrite(t *testing.T, b api.Bits, v uint32, k int) api.Bits {
	t.Helper()
	c, e := rice.Write(b, v, k)
	if e != api.OK {
		t.Fatalf("Write(%d bits, %d, %d): %d", b.N, v, k, e)
	}
	return c
}
