package rice_test

import (
	"math"
	"slices"
	"strings"
	"testing"

	"cadenza/api"
	"cadenza/bits"
	"cadenza/internal/rows"
	"cadenza/rice"
)

// text is the code of a number as Write makes it, as a text of zeros and ones.
func text(t *testing.T, v uint32, k int) string {
	t.Helper()
	return rows.Text(mustWrite(t, api.Bits{}, v, k))
}

// sorted are the numbers of a parameter, each of them once, the least one first.
func sorted(k int) []uint32 {
	l := rows.RiceNumbers(k)
	slices.Sort(l)
	return slices.Compact(l)
}

// Of codes in order each one that another one begins with stands just before such a one.
func TestP7_4NoCodeBeginsAnotherOne(t *testing.T) {
	for k := range 25 {
		l := sorted(k)
		for v := range uint32(2000) {
			l = append(l, v)
		}
		slices.Sort(l)
		l = slices.Compact(l)
		var codes []string
		for _, v := range l {
			codes = append(codes, text(t, v, k))
		}
		slices.Sort(codes)
		for i := 1; i < len(codes); i++ {
			if strings.HasPrefix(codes[i], codes[i-1]) {
				t.Fatalf("with %d the code %q begins %q", k, codes[i-1], codes[i])
			}
		}
	}
}

func TestP7_4CodesBehindEachOtherAreReadAsTheNumbers(t *testing.T) {
	for k := range 25 {
		l := rows.RiceNumbers(k)
		var b api.Bits
		for i, v := range l {
			b = mustWrite(t, b, v, (k+i/7)%25)
		}
		at := 0
		for i, want := range l {
			p := (k + i/7) % 25
			next := at + mustLength(t, want, p)
			wantRead(t, "codes", b, at, p, want, next)
			at = next
		}
		if at != b.N {
			t.Fatalf("%d bits, of which %d are read", b.N, at)
		}
		wantNotRead(t, "all codes", b, at, k, api.ErrShort)
	}
}

// wantReadIsItsCode reads from each index on: what is read must be the code of its number, and no other bits are one.
func wantReadIsItsCode(t *testing.T, s string, k int) {
	t.Helper()
	b := rows.Bits(s)
	for at := range b.N + 1 {
		v, next, e := rice.Read(b, at, k)
		if e == api.OK && (next <= at || next > b.N || s[at:next] != text(t, v, k)) {
			t.Fatalf("%q at %d with %d is read as %d up to %d", s, at, k, v, next)
		}
	}
}

func TestP7_4WhatIsReadHasJustThisCode(t *testing.T) {
	ones := strings.Repeat("1", 48)
	for k := range 25 {
		wantReadIsItsCode(t, rows.Noise(k, 200), k)
		wantReadIsItsCode(t, rows.Noise(k, 5)+ones+rows.Noise(k+50, 90), k)
		for i := range 32 {
			// Behind MaxRun: numbers near the least one that may stand there, and powers of 2.
			wantReadIsItsCode(t, ones+rows.Digits(48*rows.Power(k)-16+uint64(i), 32), k)
			wantReadIsItsCode(t, ones+rows.Digits(rows.Power(i), 32), k)
		}
	}
	for k := range 5 {
		for length := range 10 {
			for x := range uint64(1) << length {
				wantReadIsItsCode(t, rows.Digits(x, length), k)
			}
		}
	}
}

func TestP7_4HowLongCodesAre(t *testing.T) {
	for k := range 25 {
		for _, v := range rows.RiceNumbers(k) {
			length := mustLength(t, v, k)
			if length < k+1 || length > 80 {
				t.Errorf("Length(%d, %d) = %d", v, k, length)
			}
			if uint64(v) < rows.Power(k) && length != k+1 {
				t.Errorf("Length(%d, %d) = %d", v, k, length)
			}
			if b := mustWrite(t, api.Bits{}, v, k); b.N != length {
				t.Errorf("%d with %d: %d bits, but Length %d", v, k, b.N, length)
			}
		}
	}
}

func TestP7_4AGreaterNumberHasNoShorterCode(t *testing.T) {
	for k := range 25 {
		l := sorted(k)
		for i := 1; i < len(l); i++ {
			if mustLength(t, l[i], k) < mustLength(t, l[i-1], k) {
				t.Errorf("with %d the code of %d is shorter than that of %d", k, l[i], l[i-1])
			}
		}
		for v := uint32(1); v < 3000; v++ {
			if mustLength(t, v, k) < mustLength(t, v-1, k) {
				t.Errorf("with %d the code of %d is shorter than that of %d", k, v, v-1)
			}
		}
	}
}

func TestP1ArgumentsAreOnlyReadAndMemoryIsNotShared(t *testing.T) {
	calls := func(b api.Bits) []api.Bits {
		var l []api.Bits
		for _, k := range []int{0, 1, 8, 24, -1, 25} {
			for _, v := range []uint32{0, 1, 47, 48, 300, math.MaxUint32} {
				c, _ := rice.Write(b, v, k)
				l = append(l, c)
			}
			for at := -1; at <= b.N+1; at++ {
				rice.Read(b, at, k)
			}
		}
		return l
	}
	for _, s := range append(rows.Heads(), strings.Repeat("1", 100)) {
		if fault := rows.MemoryFault(s, calls); fault != "" {
			t.Fatalf("%q: %s", s, fault)
		}
	}
}

// Whatever the arguments are: no call panics, written bits are valid, and with an error all else is 0.
func TestP1ResultsAreValidForAllArguments(t *testing.T) {
	args := []api.Bits{{}, rows.Bits("1"), rows.Bits(rows.Noise(1, 65)), rows.Bits(strings.Repeat("1", 177)), rows.Bits(strings.Repeat("1", 48) + strings.Repeat("0", 40)), rows.Full(0), rows.Full(1)}
	for _, b := range rows.Broken() {
		args = append(args, b)
	}
	indexes := append([]int{0, 1, 47, 48, 80, api.MaxBits - 1, api.MaxBits, math.MaxInt}, rows.BadIndexes()...)
	for _, k := range append([]int{0, 1, 8, 24}, badParameters...) {
		for _, b := range args {
			for _, v := range []uint32{0, 1, 48, 48<<24 - 1, math.MaxUint32} {
				c, e := rice.Write(b, v, k)
				if bits.Check(c) != api.OK || e != api.OK && c.N != 0 || e == api.OK && c.N <= b.N {
					t.Fatalf("Write(%d bits, %d, %d): %d bits, %d bytes, %d", b.N, v, k, c.N, len(c.Bytes), e)
				}
			}
			for _, at := range indexes {
				v, next, e := rice.Read(b, at, k)
				if e == api.OK && (next <= at || next > b.N) || e != api.OK && (v != 0 || next != 0) {
					t.Fatalf("Read(%d bits, %d, %d): %d, %d, %d", b.N, at, k, v, next, e)
				}
			}
		}
	}
}

func TestP1NothingIsKeptFromCallToCall(t *testing.T) {
	b := rows.Bits("0" + rows.Rice(math.MaxUint32, 2) + rows.Rice(9, 2))
	for range 3 {
		wantNotRead(t, "bits", b, -1, 2, api.ErrArg)
		wantNotRead(t, "bits", b, 0, 25, api.ErrArg)
		wantNotRead(t, "bits", b, b.N, 2, api.ErrShort)
		wantNotWritten(t, "bits", b, 9, -1, api.ErrArg)
		wantRead(t, "bits", b, 1, 2, math.MaxUint32, 81)
		wantRead(t, "bits", b, 81, 2, 9, 86)
		wantRead(t, "bits", b, 0, 0, 0, 1)
		wantWritten(t, "01", 3, 1)
		if mustLength(t, 9, 2) != 5 {
			t.Error("Length(9, 2)")
		}
	}
}
