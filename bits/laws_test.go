package bits_test

import (
	"fmt"
	"math"
	"testing"

	"cadenza/api"
	"cadenza/bits"
	"cadenza/internal/rows"
)

func TestP2_3WhatWasPutIsGotAndTheRestStays(t *testing.T) {
	for _, text := range rows.Texts(20) {
		for n := range 65 {
			v := number(rows.Noise(n+len(text), n))
			b := mustPut(t, rows.Bits(text), v, n)
			got, e := bits.Get(b, len(text), n)
			wantNumber(t, fmt.Sprint("Get behind ", text, " ", n), got, e, v, api.OK)
			if !rows.Same(mustCut(t, b, 0, len(text)), rows.Bits(text)) {
				t.Errorf("Put(%q, %d, %d) changed what stood before", text, v, n)
			}
			b = mustJoin(t, b, rows.Bits("1110111"))
			got, e = bits.Get(b, len(text), n)
			wantNumber(t, fmt.Sprint("Get in the middle ", text, " ", n), got, e, v, api.OK)
		}
	}
}

func TestP2_3ManyNumbersComeBackInOrder(t *testing.T) {
	var b api.Bits
	for i := range 300 {
		n := i * 37 % 65
		b = mustPut(t, b, number(rows.Noise(i, n)), n)
	}
	at := 0
	for i := range 300 {
		n := i * 37 % 65
		v, e := bits.Get(b, at, n)
		wantNumber(t, fmt.Sprint("number ", i), v, e, number(rows.Noise(i, n)), api.OK)
		at += n
	}
	if at != b.N {
		t.Errorf("%d bits; want %d", b.N, at)
	}
}

func TestP2_3NumbersPutBehindEachOtherAreOne(t *testing.T) {
	for _, text := range []string{"", "1", "0110", "10101010", "110011001"} {
		for m := range 65 {
			for n := range 65 - m {
				v, w := number(rows.Noise(m, m)), number(rows.Noise(n+70, n))
				apart := mustPut(t, mustPut(t, rows.Bits(text), v, m), w, n)
				at := mustPut(t, rows.Bits(text), v+number(digits(0, m)+digits(w, n)), m+n)
				if !rows.Same(apart, at) {
					t.Fatalf("%q: %d with %d bits and %d with %d: %v, but at once %v", text, v, m, w, n, apart, at)
				}
			}
		}
	}
}

func TestP2_3WhatIsCutAndJoinedIsTheSame(t *testing.T) {
	for _, text := range []string{"", "1", rows.Noise(1, 8), rows.Noise(2, 29), rows.Noise(3, 64), rows.Noise(4, 131)} {
		b := rows.Bits(text)
		for i := range b.N + 1 {
			head, tail := mustCut(t, b, 0, i), mustCut(t, b, i, b.N)
			if !rows.Same(mustJoin(t, head, tail), b) {
				t.Errorf("%q cut at %d, and joined: %v", text, i, mustJoin(t, head, tail))
			}
			for j := i; j <= b.N; j++ {
				middle, end := mustCut(t, b, i, j), mustCut(t, b, j, b.N)
				if !rows.Same(mustJoin(t, mustJoin(t, head, middle), end), b) {
					t.Errorf("%q cut at %d and %d, and joined, is another one", text, i, j)
				}
			}
		}
	}
}

func TestP2_3JoiningDoesNotDependOnWhereItIsBegun(t *testing.T) {
	for _, a := range rows.Texts(9) {
		for _, b := range rows.Texts(9) {
			for _, c := range []string{"", "1", "0000000", rows.Noise(5, 8), rows.Noise(6, 17)} {
				left := mustJoin(t, mustJoin(t, rows.Bits(a), rows.Bits(b)), rows.Bits(c))
				right := mustJoin(t, rows.Bits(a), mustJoin(t, rows.Bits(b), rows.Bits(c)))
				if !rows.Same(left, right) {
					t.Fatalf("%q %q %q: %v, %v", a, b, c, left, right)
				}
			}
		}
	}
	for _, text := range rows.Texts(20) {
		b := rows.Bits(text)
		if !rows.Same(mustJoin(t, b, api.Bits{}), b) || !rows.Same(mustJoin(t, api.Bits{}, b), b) {
			t.Errorf("%q joined with nothing is another one", text)
		}
	}
}

func TestP2_3FilledUpBitsAreThoseOfTheirBytes(t *testing.T) {
	for _, text := range append(rows.Texts(40), rows.Noise(1, 4001)) {
		b := rows.Bits(text)
		filled, e := bits.Align(b)
		all, f := bits.Of(b.Bytes)
		if e != api.OK || f != api.OK || !rows.Same(filled, all) || filled.N%8 != 0 {
			t.Errorf("Align(%q) = %v, %d; Of its bytes %v, %d", text, filled, e, all, f)
		}
	}
}

// results are those of each call that returns bits, all made of the same bits; the other calls are made too.
func results(b api.Bits) []api.Bits {
	var l []api.Bits
	keep := func(c api.Bits, _ api.Errno) { l = append(l, c) }
	keep(bits.Put(b, 0, 0))
	keep(bits.Put(b, 5, 3))
	keep(bits.Put(b, 4, 1))
	keep(bits.Put(b, math.MaxUint64, 64))
	keep(bits.Join(b, api.Bits{}))
	keep(bits.Join(api.Bits{}, b))
	keep(bits.Join(b, b))
	keep(bits.Cut(b, 0, b.N))
	keep(bits.Cut(b, 0, b.N/2))
	keep(bits.Cut(b, b.N/2, b.N))
	keep(bits.Of(b.Bytes))
	keep(bits.Align(b))
	bits.Check(b)
	bits.Get(b, 0, b.N)
	return l
}

func TestP1ArgumentsAreOnlyReadAndMemoryIsNotShared(t *testing.T) {
	for _, text := range rows.Texts(26) {
		if fault := rows.MemoryFault(text, results); fault != "" {
			t.Fatalf("%q: %s", text, fault)
		}
	}
}

// All results are valid bits, whatever the arguments, or zero values with an error; no call panics.
func TestP1ResultsAreValidForAllArguments(t *testing.T) {
	args := []api.Bits{{}, rows.Bits("1"), rows.Bits(rows.Noise(1, 7)), rows.Bits(rows.Noise(2, 8)), rows.Bits(rows.Noise(3, 65)), rows.Full(0), rows.Full(1)}
	for _, b := range rows.Broken() {
		args = append(args, b)
	}
	ints := append([]int{0, 1, 7, 8, 9, 64, api.MaxBits - 1, api.MaxBits, api.MaxBits + 1}, badCounts...)
	look := func(b api.Bits, e api.Errno) {
		t.Helper()
		if bits.Check(b) != api.OK || e != api.OK && b.N != 0 {
			t.Fatalf("%d bits, %d bytes, %d", b.N, len(b.Bytes), e)
		}
	}
	for _, b := range args {
		look(bits.Align(b))
		look(bits.Of(b.Bytes))
		for _, c := range args {
			look(bits.Join(b, c))
		}
		for _, i := range ints {
			look(bits.Put(b, 0, i))
			look(bits.Put(b, math.MaxUint64, i))
			for _, j := range ints {
				look(bits.Cut(b, i, j))
				if v, e := bits.Get(b, i, j); e != api.OK && v != 0 {
					t.Fatalf("Get(%d bits, %d, %d) = %d, %d", b.N, i, j, v, e)
				}
			}
		}
	}
}
