package unary_test

import (
	"math"
	"strings"
	"testing"

	"cadenza/api"
	"cadenza/internal/rows"
	"cadenza/unary"
)

// badNumbers have no run; some would have one if they were cut to fewer bits, or their sign lost.
var badNumbers = []int{math.MinInt, math.MinInt + 5, -1 << 32, -256, -64, -49, -48, -47, -2, -1, 49, 50, 63, 64, 65, 96, 127, 128, 255, 256, 260, 1 << 16, 1<<32 + 3, math.MaxInt - 1, math.MaxInt}

// run is the run of a number as a text of zeros and ones.
func run(n int) string {
	if n == 48 {
		return strings.Repeat("1", 48)
	}
	return strings.Repeat("1", n) + "0"
}

// runs are those of some numbers behind each other.
func runs(l []int) string {
	text := ""
	for _, n := range l {
		text += run(n)
	}
	return text
}

// manyNumbers are n numbers with runs, without a pattern that repeats soon, and MaxRun and the number before it often among them.
func manyNumbers(seed, n int) []int {
	l := make([]int, n)
	x := uint32(seed)*2654435761 + 1
	for i := range l {
		x = x*1664525 + 1013904223
		l[i] = min(int(x>>8)%60, 48-int(x>>30&1))
	}
	return l
}

// firstRun is what a run at the beginning of a text stands for, and how long it is; -1 if there is none. It tries all of them.
func firstRun(text string) (n, length int) {
	for n := range 49 {
		if strings.HasPrefix(text, run(n)) {
			return n, len(run(n))
		}
	}
	return -1, 0
}

func wantWritten(t *testing.T, head string, n int) {
	t.Helper()
	b, e := unary.Write(rows.Bits(head), n)
	if e != api.OK || !rows.Same(b, rows.Bits(head+run(n))) {
		t.Fatalf("Write(%q, %d) = %v, %d", head, n, b, e)
	}
}

func wantNotWritten(t *testing.T, what string, b api.Bits, n int, want api.Errno) {
	t.Helper()
	c, e := unary.Write(b, n)
	if e != want || c.N != 0 || len(c.Bytes) != 0 {
		t.Fatalf("Write of %d behind %s: %d bits, %d bytes, %d; want error %d", n, what, c.N, len(c.Bytes), e, want)
	}
}

func wantRead(t *testing.T, what string, b api.Bits, at, want, wantNext int) {
	t.Helper()
	n, next, e := unary.Read(b, at)
	if e != api.OK || n != want || next != wantNext {
		t.Fatalf("Read of %s at %d = %d, %d, %d; want %d, %d", what, at, n, next, e, want, wantNext)
	}
}

func wantNotRead(t *testing.T, what string, b api.Bits, at int, want api.Errno) {
	t.Helper()
	n, next, e := unary.Read(b, at)
	if e != want || n != 0 || next != 0 {
		t.Fatalf("Read of %s at %d = %d, %d, %d; want error %d", what, at, n, next, e, want)
	}
}

func mustLength(t *testing.T, n int) int {
	t.Helper()
	length, e := unary.Length(n)
	if e != api.OK {
		t.Fatalf("Length(%d): %d", n, e)
	}
	return length
}

// written are the runs of numbers behind each other, as Write makes them.
func written(t *testing.T, l []int) api.Bits {
	t.Helper()
	var b api.Bits
	for _, n := range l {
		var e api.Errno
		if b, e = unary.Write(b, n); e != api.OK {
			t.Fatalf("Write(%d bits, %d): %d", b.N, n, e)
		}
	}
	return b
}
