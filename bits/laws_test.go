package bits_test

import (
	"bytes"
	"fmt"
	"math"
	"slices"
	"testing"

	"cadenza/api"
	"cadenza/bits"
)

func TestP2_3WhatWasPutIsGotAndTheRestStays(t *testing.T) {
	for _, text := range texts(20) {
		for n := range 65 {
			v := number(noise(n+len(text), n))
			b := mustPut(t, row(text), v, n)
			got, e := bits.Get(b, len(text), n)
			wantNumber(t, fmt.Sprint("Get behind ", text, " ", n), got, e, v, api.OK)
			if !same(mustCut(t, b, 0, len(text)), row(text)) {
				t.Errorf("Put(%q, %d, %d) changed what stood before", text, v, n)
			}
			b = mustJoin(t, b, row("1110111"))
			got, e = bits.Get(b, len(text), n)
			wantNumber(t, fmt.Sprint("Get in the middle ", text, " ", n), got, e, v, api.OK)
		}
	}
}

func TestP2_3ManyNumbersComeBackInOrder(t *testing.T) {
	var b api.Bits
	for i := range 300 {
		n := i * 37 % 65
		b = mustPut(t, b, number(noise(i, n)), n)
	}
	at := 0
	for i := range 300 {
		n := i * 37 % 65
		v, e := bits.Get(b, at, n)
		wantNumber(t, fmt.Sprint("number ", i), v, e, number(noise(i, n)), api.OK)
		at += n
	}
	if at != b.N {
		t.Errorf("%d bits; want %d", b.N, at)
	}
}

func TestP2_3NumbersPutBehindEachOtherAreOne(t *testing.T) {
	for _, text := range []string{"", "1", "0110", "10101010", "110011001"} {
		for m := range 65 {
			for n := range 65 - m {
				v, w := number(noise(m, m)), number(noise(n+70, n))
				apart := mustPut(t, mustPut(t, row(text), v, m), w, n)
				at := mustPut(t, row(text), v+number(digits(0, m)+digits(w, n)), m+n)
				if !same(apart, at) {
					t.Fatalf("%q: %d with %d bits and %d with %d: %v, but at once %v", text, v, m, w, n, apart, at)
				}
			}
		}
	}
}

func TestP2_3WhatIsCutAndJoinedIsTheSame(t *testing.T) {
	for _, text := range []string{"", "1", noise(1, 8), noise(2, 29), noise(3, 64), noise(4, 131)} {
		b := row(text)
		for i := range b.N + 1 {
			head, tail := mustCut(t, b, 0, i), mustCut(t, b, i, b.N)
			if !same(mustJoin(t, head, tail), b) {
				t.Errorf("%q cut at %d, and joined: %v", text, i, mustJoin(t, head, tail))
			}
			for j := i; j <= b.N; j++ {
				middle, end := mustCut(t, b, i, j), mustCut(t, b, j, b.N)
				if !same(mustJoin(t, mustJoin(t, head, middle), end), b) {
					t.Errorf("%q cut at %d and %d, and joined, is another one", text, i, j)
				}
			}
		}
	}
}

func TestP2_3JoiningDoesNotDependOnWhereItIsBegun(t *testing.T) {
	for _, a := range texts(9) {
		for _, b := range texts(9) {
			for _, c := range []string{"", "1", "0000000", noise(5, 8), noise(6, 17)} {
				left := mustJoin(t, mustJoin(t, row(a), row(b)), row(c))
				right := mustJoin(t, row(a), mustJoin(t, row(b), row(c)))
				if !same(left, right) {
					t.Fatalf("%q %q %q: %v, %v", a, b, c, left, right)
				}
			}
		}
	}
	for _, text := range texts(20) {
		b := row(text)
		if !same(mustJoin(t, b, api.Bits{}), b) || !same(mustJoin(t, api.Bits{}, b), b) {
			t.Errorf("%q joined with nothing is another one", text)
		}
	}
}

func TestP2_3FilledUpBitsAreThoseOfTheirBytes(t *testing.T) {
	for _, text := range append(texts(40), noise(1, 4001)) {
		b := row(text)
		filled, e := bits.Align(b)
		all, f := bits.Of(b.Bytes)
		if e != api.OK || f != api.OK || !same(filled, all) || filled.N%8 != 0 {
			t.Errorf("Align(%q) = %v, %d; Of its bytes %v, %d", text, filled, e, all, f)
		}
	}
}

// results are those of each call that returns bits, all made of the same bits.
func results(b api.Bits) []api.Bits {
	var l []api.Bits
	keep := func(c api.Bits, _ api.Errno) { l = append(l, c) }
	keep(bits.Put(b, 0, 0))
	keep(bits.Put(b, 5, 3))
	keep(bits.Put(b, math.MaxUint64, 64))
	keep(bits.Join(b, api.Bits{}))
	keep(bits.Join(api.Bits{}, b))
	keep(bits.Join(b, b))
	keep(bits.Cut(b, 0, b.N))
	keep(bits.Cut(b, 0, b.N/2))
	keep(bits.Cut(b, b.N/2, b.N))
	keep(bits.Of(b.Bytes))
	keep(bits.Align(b))
	return l
}

// withRoom are the same bits in bytes that have 12 more behind them, all 0xa5.
func withRoom(text string) (api.Bits, []byte) {
	b := row(text)
	memory := append(slices.Clone(b.Bytes), bytes.Repeat([]byte{0xa5}, 12)...)
	return api.Bits{Bytes: memory[:len(b.Bytes)], N: b.N}, memory
}

func TestP1ArgumentsAreOnlyRead(t *testing.T) {
	for _, text := range texts(26) {
		b, memory := withRoom(text)
		before := slices.Clone(memory)
		results(b)
		bits.Check(b)
		bits.Get(b, 0, b.N)
		bits.Put(b, 4, 1)
		if !bytes.Equal(memory, before) {
			t.Errorf("%q: %v became %v", text, before, memory)
		}
	}
}

func TestP1ResultsShareNoMemory(t *testing.T) {
	for _, text := range texts(26) {
		b, memory := withRoom(text)
		before := slices.Clone(memory)
		l := results(b)
		want := results(row(text))
		for i, c := range l {
			if !same(c, want[i]) {
				t.Errorf("%q: result %d is %v; want %v", text, i, c, want[i])
			}
			whole := c.Bytes[:cap(c.Bytes)]
			for j := range whole {
				whole[j] = ^whole[j]
			}
			if !bytes.Equal(memory, before) {
				t.Fatalf("%q: result %d shares memory with its argument", text, i)
			}
		}
		for i, c := range results(b) {
			if !same(c, want[i]) {
				t.Errorf("%q: a changed result changed a later one, %d", text, i)
			}
		}
	}
}

func TestP1AChangedArgumentChangesNoResult(t *testing.T) {
	for _, text := range texts(18) {
		b, memory := withRoom(text)
		l := results(b)
		for i := range memory {
			memory[i] = ^memory[i]
		}
		for i, want := range results(row(text)) {
			if !same(l[i], want) {
				t.Errorf("%q: result %d changed with its argument", text, i)
			}
		}
	}
}

// All results are valid bits, whatever the arguments, or zero values with an error; no call panics.
func TestP1ResultsAreValidForAllArguments(t *testing.T) {
	args := []api.Bits{{}, row("1"), row(noise(1, 7)), row(noise(2, 8)), row(noise(3, 65)), full(0), full(1)}
	for _, b := range broken() {
		args = append(args, b)
	}
	ints := append([]int{0, 1, 7, 8, 9, 64, api.MaxBits - 1, api.MaxBits, api.MaxBits + 1}, badCounts...)
	look := func(b api.Bits, e api.Errno) {
		t.Helper()
		if bits.Check(b) != api.OK || e != api.OK && b.N != 0 {
			t.Fatalf("%d bits, %d bytes, %d", b.N, len(b.Bytes), e)
		}
	}
	for _, b := range args {
		look(bits.Align(b))
		look(bits.Of(b.Bytes))
		for _, c := range args {
			look(bits.Join(b, c))
		}
		for _, i := range ints {
			look(bits.Put(b, 0, i))
			look(bits.Put(b, math.MaxUint64, i))
			for _, j := range ints {
				look(bits.Cut(b, i, j))
				if v, e := bits.Get(b, i, j); e != api.OK && v != 0 {
					t.Fatalf("Get(%d bits, %d, %d) = %d, %d", b.N, i, j, v, e)
				}
			}
		}
	}
}
