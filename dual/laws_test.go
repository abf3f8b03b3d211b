package dual_test

import (
	"math"
	"slices"
	"strings"
	"testing"

	"cadenza/api"
	"cadenza/bits"
	"cadenza/dual"
	"cadenza/internal/rows"
)

func TestP8_4TheStateStaysValid(t *testing.T) {
	for _, d := range append(states(), rows.AllKs()...) {
		for _, v := range rows.DualNumbers(d) {
			if x := mustLearn(t, d, v); dual.Check(x) != api.OK {
				t.Fatalf("Learn(%v, %d) = %v", d, v, x)
			}
		}
	}
	d := dual.Start()
	for range 2000 {
		d = mustLearn(t, d, math.MaxUint32)
		if dual.Check(d) != api.OK {
			t.Fatal(d)
		}
	}
	if d.K0 != 24 || d.K1 != 24 {
		t.Error(d)
	}
}

func TestP8_4BothSidesLearnTheSame(t *testing.T) {
	for seed, start := range append([]api.Dual{first, {}}, rows.AllKs()...) {
		l := rows.AllSizes(seed, 60)
		var b api.Bits
		d := start
		for _, v := range l {
			want := mustLearn(t, d, v)
			if b, d = mustWrite(t, b, d, v); d != want {
				t.Fatalf("behind %d: %v; Learn says %v", v, d, want)
			}
		}
		at, again := 0, start
		for _, want := range l {
			v, next, x, e := dual.Read(b, at, again)
			if e != api.OK || v != want || x != mustLearn(t, again, v) {
				t.Fatalf("Read at %d in %v = %d, %v, %d; want %d", at, again, v, x, e, want)
			}
			at, again = next, x
		}
		if at != b.N || again != d {
			t.Fatalf("read up to %d of %d, and %v; written %v", at, b.N, again, d)
		}
	}
}

// text is the code of a number as Write makes it, as a text of zeros and ones.
func text(t *testing.T, d api.Dual, v uint32) string {
	t.Helper()
	b, _ := mustWrite(t, api.Bits{}, d, v)
	return rows.Text(b)
}

// Of codes in order each one that another one begins with stands just before such a one.
func TestP8_4NoCodeBeginsAnotherOne(t *testing.T) {
	for _, d := range rows.AllKs() {
		l := rows.DualNumbers(d)
		for i := range uint32(200) {
			l = append(l, i, uint32(rows.Power(d.K0))+i)
		}
		slices.Sort(l)
		var codes []string
		for _, v := range slices.Compact(l) {
			codes = append(codes, text(t, d, v))
		}
		slices.Sort(codes)
		for i := 1; i < len(codes); i++ {
			if strings.HasPrefix(codes[i], codes[i-1]) {
				t.Fatalf("in %v the code %q begins %q", d, codes[i-1], codes[i])
			}
		}
	}
}

// wantReadIsItsCode reads from each index on: what is read must be the code of its number, and no other bits are one.
func wantReadIsItsCode(t *testing.T, s string, d api.Dual) {
	t.Helper()
	b := rows.Bits(s)
	for at := range b.N + 1 {
		v, next, _, e := dual.Read(b, at, d)
		if e == api.OK && (next <= at || next > b.N || s[at:next] != text(t, d, v)) {
			t.Fatalf("%q at %d in %v is read as %d up to %d", s, at, d, v, next)
		}
	}
}

func TestP8_4ThereIsOneCodeForEachNumber(t *testing.T) {
	ones := strings.Repeat("1", 49)
	for i, d := range rows.AllKs() {
		wantReadIsItsCode(t, rows.Noise(i, 120), d)
		for j := range 8 {
			// Behind MaxRun: numbers near the least one that may stand there, and near the greatest one.
			wantReadIsItsCode(t, ones+rows.Digits(48*rows.Power(d.K1)-4+uint64(j), 32), d)
			wantReadIsItsCode(t, ones+rows.Digits(rows.Power(32)-rows.Power(d.K0)-4+uint64(j), 32), d)
		}
	}
	for k0 := range 4 {
		for k1 := range 4 {
			for x := range uint64(1) << 10 {
				wantReadIsItsCode(t, rows.Digits(x, 10), api.Dual{K0: k0, K1: k1})
			}
		}
	}
}

func TestP8_4HowLongCodesAre(t *testing.T) {
	for _, d := range append(states(), rows.AllKs()...) {
		for _, v := range rows.DualNumbers(d) {
			length, e := dual.Length(d, v)
			if b, _ := mustWrite(t, api.Bits{}, d, v); e != api.OK || b.N != length || length < 1 || length > 81 {
				t.Fatalf("%d in %v: %d bits, but Length %d, %d", v, d, b.N, length, e)
			}
		}
	}
}

func TestP8_4APairChangesItsKByAtMostOne(t *testing.T) {
	for _, d := range append(states(), rows.AllKs()...) {
		for _, v := range rows.DualNumbers(d) {
			x := mustLearn(t, d, v)
			if x.K0 < d.K0-1 || x.K0 > d.K0+1 || x.K1 < d.K1-1 || x.K1 > d.K1+1 {
				t.Fatalf("Learn(%v, %d) = %v", d, v, x)
			}
		}
	}
}

func TestP8_4TheFirstPairDoesNotDependOnTheSecondOne(t *testing.T) {
	for _, d := range states() {
		for _, v := range rows.DualNumbers(d) {
			want := mustLearn(t, d, v)
			for _, other := range []api.Dual{{}, first, {K1: 24, Sum1: rows.MaxSum}} {
				other.K0, other.Sum0 = d.K0, d.Sum0
				if x := mustLearn(t, other, v); x.K0 != want.K0 || x.Sum0 != want.Sum0 {
					t.Fatalf("Learn(%v, %d) = %v, but Learn(%v) = %v", d, v, want, other, x)
				}
			}
		}
	}
}

func TestP1ArgumentsAreOnlyReadAndMemoryIsNotShared(t *testing.T) {
	calls := func(b api.Bits) []api.Bits {
		var l []api.Bits
		for _, d := range []api.Dual{first, {}, {K0: 8, K1: 7}, {K0: 24, K1: 24}, {K0: -1}, {K1: 25}} {
			for _, v := range []uint32{0, 1, 48, 49, 300, math.MaxUint32} {
				c, _, _ := dual.Write(b, d, v)
				l = append(l, c)
			}
			for at := -1; at <= b.N+1; at++ {
				dual.Read(b, at, d)
			}
		}
		return l
	}
	for _, s := range append(rows.Heads(), strings.Repeat("1", 100)) {
		if fault := rows.MemoryFault(s, calls); fault != "" {
			t.Fatalf("%q: %s", s, fault)
		}
	}
}

// Whatever the arguments are: no call panics, what is written and learnt is valid, and with an error all else is 0.
func TestP1ResultsAreValidForAllArguments(t *testing.T) {
	args := []api.Bits{{}, rows.Bits("1"), rows.Bits(rows.Noise(1, 65)), rows.Bits(strings.Repeat("1", 177)), rows.Bits(strings.Repeat("1", 49) + strings.Repeat("0", 40)), rows.Full(0), rows.Full(1)}
	for _, b := range rows.Broken() {
		args = append(args, b)
	}
	indexes := append([]int{0, 1, 48, 81, api.MaxBits - 1, api.MaxBits, math.MaxInt}, rows.BadIndexes()...)
	fault := func(x api.Dual, e api.Errno) bool {
		return dual.Check(x) != api.OK || e != api.OK && x != (api.Dual{})
	}
	for _, d := range append(rows.BrokenDuals(), first, api.Dual{}, api.Dual{K0: 24, K1: 24, Sum0: rows.MaxSum, Sum1: rows.MaxSum}) {
		for _, b := range args {
			for _, v := range []uint32{0, 1, 49, 1024, math.MaxUint32} {
				c, x, e := dual.Write(b, d, v)
				if fault(x, e) || bits.Check(c) != api.OK || (e == api.OK) != (c.N > b.N && c.N > 0) || e != api.OK && c.N != 0 {
					t.Fatalf("Write(%d bits, %v, %d): %d bits, %d bytes, %v, %d", b.N, d, v, c.N, len(c.Bytes), x, e)
				}
			}
			for _, at := range indexes {
				v, next, x, e := dual.Read(b, at, d)
				if fault(x, e) || e == api.OK && (next <= at || next > b.N) || e != api.OK && (v != 0 || next != 0) {
					t.Fatalf("Read(%d bits, %d, %v): %d, %d, %v, %d", b.N, at, d, v, next, x, e)
				}
			}
		}
	}
}

func TestP1NothingIsKeptFromCallToCall(t *testing.T) {
	b := rows.Bits("0" + rows.Dual(first, math.MaxUint32) + rows.Dual(first, 9))
	for range 3 {
		wantNotRead(t, "bits", b, -1, first, api.ErrArg)
		wantNotRead(t, "bits", b, 0, api.Dual{K0: 25}, api.ErrBad)
		wantNotRead(t, "bits", b, b.N, first, api.ErrShort)
		wantNotWritten(t, "bits", b, api.Dual{K1: -1}, 9, api.ErrBad)
		wantRead(t, "bits", b, 1, first, math.MaxUint32, 82)
		wantRead(t, "bits", b, 82, first, 9, 93)
		wantWritten(t, "01", first, 3)
		wantLearnt(t, first, 5, api.Dual{K0: 9, K1: 10, Sum0: 15365, Sum1: 16384})
		wantLength(t, first, 5, 11)
		if dual.Start() != first {
			t.Error("Start")
		}
	}
}
