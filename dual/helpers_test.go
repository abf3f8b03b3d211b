package dual_test

import (
	"testing"

	"cadenza/api"
	"cadenza/dual"
	"cadenza/internal/rows"
)

// first is the first state.
var first = rows.Start()

// someKs are the least ones, the greatest ones, and some between.
var someKs = []int{0, 1, 2, 7, 8, 10, 23, 24}

// sums are the least and the greatest ones, and those near the limits at which a K changes.
func sums(k int) []uint64 {
	l := []uint64{0, 1, 15, 16, 17, rows.MaxSum - 16, rows.MaxSum - 1, rows.MaxSum}
	for _, p := range []uint64{rows.Power(k + 4), rows.Power(k + 5)} {
		l = append(l, p-1, p, p+1, p*16/15-1, p*16/15, p*16/15+1)
	}
	return l
}

// states are valid ones with some K, and all kinds of Sums.
func states() []api.Dual {
	l := []api.Dual{first}
	for _, k0 := range someKs {
		for _, k1 := range someKs {
			zeros, ones := sums(k0), sums(k1)
			for i := range zeros {
				l = append(l, api.Dual{K0: k0, K1: k1, Sum0: zeros[i], Sum1: ones[(i*7+k0)%len(ones)]})
			}
		}
	}
	return l
}

func wantLearnt(t *testing.T, d api.Dual, v uint32, want api.Dual) {
	t.Helper()
	x, e := dual.Learn(d, v)
	if e != api.OK || x != want {
		t.Fatalf("Learn(%v, %d) = %v, %d; want %v", d, v, x, e, want)
	}
}

func wantLength(t *testing.T, d api.Dual, v uint32, want int) {
	t.Helper()
	length, e := dual.Length(d, v)
	if e != api.OK || length != want {
		t.Fatalf("Length(%v, %d) = %d, %d; want %d", d, v, length, e, want)
	}
}

func wantWritten(t *testing.T, head string, d api.Dual, v uint32) {
	t.Helper()
	b, x, e := dual.Write(rows.Bits(head), d, v)
	if e != api.OK || !rows.Same(b, rows.Bits(head+rows.Dual(d, v))) || x != rows.Behind(d, v) {
		t.Fatalf("Write(%q, %v, %d) = %v, %v, %d; want the code %q, and %v", head, d, v, b, x, e, rows.Dual(d, v), rows.Behind(d, v))
	}
}

func wantNotWritten(t *testing.T, what string, b api.Bits, d api.Dual, v uint32, want api.Errno) {
	t.Helper()
	c, x, e := dual.Write(b, d, v)
	if e != want || c.N != 0 || len(c.Bytes) != 0 || x != (api.Dual{}) {
		t.Fatalf("Write of %d in %v behind %s: %d bits, %d bytes, %v, %d; want error %d", v, d, what, c.N, len(c.Bytes), x, e, want)
	}
}

func wantRead(t *testing.T, what string, b api.Bits, at int, d api.Dual, want uint32, wantNext int) {
	t.Helper()
	v, next, x, e := dual.Read(b, at, d)
	if e != api.OK || v != want || next != wantNext || x != rows.Behind(d, want) {
		t.Fatalf("Read of %s at %d in %v = %d, %d, %v, %d; want %d, %d, %v", what, at, d, v, next, x, e, want, wantNext, rows.Behind(d, want))
	}
}

func wantNotRead(t *testing.T, what string, b api.Bits, at int, d api.Dual, want api.Errno) {
	t.Helper()
	v, next, x, e := dual.Read(b, at, d)
	if e != want || v != 0 || next != 0 || x != (api.Dual{}) {
		t.Fatalf("Read of %s at %d in %v = %d, %d, %v, %d; want error %d", what, at, d, v, next, x, e, want)
	}
}

// mustWrite are bits with the code of a number behind them, and the state behind it, as Write makes them.
func mustWrite(t *testing.T, b api.Bits, d api.Dual, v uint32) (api.Bits, api.Dual) {
	t.Helper()
	c, x, e := dual.Write(b, d, v)
	if e != api.OK {
		t.Fatalf("Write(%d bits, %v, %d): %d", b.N, d, v, e)
	}
	return c, x
}

// mustLearn is the state behind a number, as Learn makes it.
func mustLearn(t *testing.T, d api.Dual, v uint32) api.Dual {
	t.Helper()
	x, e := dual.Learn(d, v)
	if e != api.OK {
		t.Fatalf("Learn(%v, %d): %d", d, v, e)
	}
	return x
}
