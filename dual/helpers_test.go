package dual_test

import (
	"math"
	"testing"

	"cadenza/api"
	"cadenza/dual"
	"cadenza/internal/rows"
)

// maxSum is the greatest Sum of a valid state.
const maxSum = 68719476735

// first is the first state.
var first = rows.Start()

// someKs are the least ones, the greatest ones, and some between.
var someKs = []int{0, 1, 2, 7, 8, 10, 23, 24}

// badKs are no parameters; some would be one if they were cut to fewer bits, or their sign lost.
var badKs = []int{math.MinInt, math.MinInt + 10, -1 << 32, -256, -246, -24, -10, -1, 25, 26, 31, 32, 63, 64, 65, 128, 255, 256, 266, 1 << 16, 1 << 32, 1<<32 + 10, math.MaxInt - 1, math.MaxInt}

// badSums are too great; some would not be if they were cut to fewer bits, or were numbers with a sign.
var badSums = []uint64{maxSum + 1, maxSum + 2, 1 << 37, 1<<37 + 16384, 1 << 40, 1 << 63, 1<<63 + 16384, math.MaxUint64 - 1, math.MaxUint64}

// broken are states that are not valid, most of them in one part alone.
func broken() []api.Dual {
	var l []api.Dual
	for _, d := range []api.Dual{{}, first, {K0: 24, K1: 24, Sum0: maxSum, Sum1: maxSum}} {
		for _, k := range badKs {
			l = append(l, api.Dual{K0: k, K1: d.K1, Sum0: d.Sum0, Sum1: d.Sum1}, api.Dual{K0: d.K0, K1: k, Sum0: d.Sum0, Sum1: d.Sum1})
		}
		for _, sum := range badSums {
			l = append(l, api.Dual{K0: d.K0, K1: d.K1, Sum0: sum, Sum1: d.Sum1}, api.Dual{K0: d.K0, K1: d.K1, Sum0: d.Sum0, Sum1: sum})
		}
	}
	return append(l, api.Dual{K0: -1, K1: 25, Sum0: maxSum + 1, Sum1: math.MaxUint64})
}

// sums are the least and the greatest ones, and those near the limits at which a K changes.
func sums(k int) []uint64 {
	l := []uint64{0, 1, 15, 16, 17, maxSum - 16, maxSum - 1, maxSum}
	for _, p := range []uint64{rows.Power(k + 4), rows.Power(k + 5)} {
		l = append(l, p-1, p, p+1, p*16/15-1, p*16/15, p*16/15+1)
	}
	return l
}

// states are valid ones with some K, and all kinds of Sums.
func states() []api.Dual {
	l := []api.Dual{first}
	for _, k0 := range someKs {
		for _, k1 := range someKs {
			zeros, ones := sums(k0), sums(k1)
			for i := range zeros {
				l = append(l, api.Dual{K0: k0, K1: k1, Sum0: zeros[i], Sum1: ones[(i*7+k0)%len(ones)]})
			}
		}
	}
	return l
}

// allKs are valid states with all pairs of K.
func allKs() []api.Dual {
	var l []api.Dual
	for k0 := range 25 {
		for k1 := range 25 {
			l = append(l, api.Dual{K0: k0, K1: k1, Sum0: 20 * rows.Power(k0), Sum1: 20 * rows.Power(k1)})
		}
	}
	return l
}

func wantLearnt(t *testing.T, d api.Dual, v uint32, want api.Dual) {
	t.Helper()
	x, e := dual.Learn(d, v)
	if e != api.OK || x != want {
		t.Fatalf("Learn(%v, %d) = %v, %d; want %v", d, v, x, e, want)
	}
}

func wantLength(t *testing.T, d api.Dual, v uint32, want int) {
	t.Helper()
	length, e := dual.Length(d, v)
	if e != api.OK || length != want {
		t.Fatalf("Length(%v, %d) = %d, %d; want %d", d, v, length, e, want)
	}
}

func wantWritten(t *testing.T, head string, d api.Dual, v uint32) {
	t.Helper()
	b, x, e := dual.Write(rows.Bits(head), d, v)
	if e != api.OK || !rows.Same(b, rows.Bits(head+rows.Dual(d, v))) || x != rows.Behind(d, v) {
		t.Fatalf("Write(%q, %v, %d) = %v, %v, %d; want the code %q, and %v", head, d, v, b, x, e, rows.Dual(d, v), rows.Behind(d, v))
	}
}

func wantNotWritten(t *testing.T, what string, b api.Bits, d api.Dual, v uint32, want api.Errno) {
	t.Helper()
	c, x, e := dual.Write(b, d, v)
	if e != want || c.N != 0 || len(c.Bytes) != 0 || x != (api.Dual{}) {
		t.Fatalf("Write of %d in %v behind %s: %d bits, %d bytes, %v, %d; want error %d", v, d, what, c.N, len(c.Bytes), x, e, want)
	}
}

func wantRead(t *testing.T, what string, b api.Bits, at int, d api.Dual, want uint32, wantNext int) {
	t.Helper()
	v, next, x, e := dual.Read(b, at, d)
	if e != api.OK || v != want || next != wantNext || x != rows.Behind(d, want) {
		t.Fatalf("Read of %s at %d in %v = %d, %d, %v, %d; want %d, %d, %v", what, at, d, v, next, x, e, want, wantNext, rows.Behind(d, want))
	}
}

func wantNotRead(t *testing.T, what string, b api.Bits, at int, d api.Dual, want api.Errno) {
	t.Helper()
	v, next, x, e := dual.Read(b, at, d)
	if e != want || v != 0 || next != 0 || x != (api.Dual{}) {
		t.Fatalf("Read of %s at %d in %v = %d, %d, %v, %d; want error %d", what, at, d, v, next, x, e, want)
	}
}

// mustWrite are bits with the code of a number behind them, and the state behind it, as Write makes them.
func mustWrite(t *testing.T, b api.Bits, d api.Dual, v uint32) (api.Bits, api.Dual) {
	t.Helper()
	c, x, e := dual.Write(b, d, v)
	if e != api.OK {
		t.Fatalf("Write(%d bits, %v, %d): %d", b.N, d, v, e)
	}
	return c, x
}

// mustLearn is the state behind a number, as Learn makes it.
func mustLearn(t *testing.T, d api.Dual, v uint32) api.Dual {
	t.Helper()
	x, e := dual.Learn(d, v)
	if e != api.OK {
		t.Fatalf("Learn(%v, %d): %d", d, v, e)
	}
	return x
}
