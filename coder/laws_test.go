package coder_test

import (
	"bytes"
	"math"
	"slices"
	"strings"
	"testing"

	"cadenza/api"
	"cadenza/bits"
	"cadenza/coder"
	"cadenza/dual"
	"cadenza/internal/rows"
)

func TestP9_3DecodedIsWhatWasCoded(t *testing.T) {
	tails := []string{"", "0", "1", "0110101", strings.Repeat("0", 90), strings.Repeat("1", 90), rows.Noise(9, 333)}
	for i, l := range append(rows.ShortLists(), rows.LongLists()...) {
		b := mustEncode(t, l)
		wantDecoded(t, name(l), b, l, b.N)
		tail := rows.Bits(tails[i%len(tails)])
		both, e := bits.Join(b, tail)
		if e != api.OK {
			t.Fatal(e)
		}
		wantDecoded(t, name(l)+" and other bits", both, l, b.N)
	}
}

func TestP9_3TheCodeBeginsWithThatOfTheFirstNumbers(t *testing.T) {
	for _, l := range append(rows.ShortLists(), rows.Waves(1, 1000, 77)) {
		text := rows.Text(mustEncode(t, l))
		for n := range len(l) + 1 {
			if first := rows.Text(mustEncode(t, l[:n])); !strings.HasPrefix(text, first) {
				t.Fatalf("the code of %s does not begin with that of the first %d", name(l), n)
			}
		}
	}
}

// The codes of layer 8, each in the state behind the numbers before it.
func TestP9_3TheCodesOfAllNumbersBehindEachOther(t *testing.T) {
	for _, l := range append(rows.ShortLists(), rows.Waves(2, 500, 60)) {
		var b api.Bits
		d := dual.Start()
		for n, v := range l {
			if x := mustAfter(t, l[:n]); x != d {
				t.Fatalf("After the first %d of %s: %v; want %v", n, name(l), x, d)
			}
			var e api.Errno
			if b, d, e = dual.Write(b, d, v); e != api.OK {
				t.Fatal(e)
			}
		}
		if !rows.Same(mustEncode(t, l), b) || mustAfter(t, l) != d {
			t.Fatalf("Encode of %s, or After: not as dual.Write", name(l))
		}
	}
}

func TestP9_3WhatIsDecodedHasTheBitsThatWereRead(t *testing.T) {
	for seed := range 200 {
		text := rows.Noise(seed, 8*seed)
		b := rows.Bits(text)
		for n := range 60 {
			l, at, e := coder.Decode(b, n)
			if e != api.OK {
				break
			}
			if rows.Text(mustEncode(t, l)) != text[:at] {
				t.Fatalf("%q is decoded as %v in %d bits", text, l, at)
			}
		}
	}
}

func TestP9_3HowLongCodesAre(t *testing.T) {
	for _, l := range append(rows.ShortLists(), rows.LongLists()...) {
		if b := mustEncode(t, l); b.N > 81*len(l) || b.N < len(l) || bits.Check(b) != api.OK {
			t.Fatalf("%s: %d bits", name(l), b.N)
		}
	}
	for n := range 100 {
		if b := mustEncode(t, rows.Alike(math.MaxUint32, n)); b.N != 81*n {
			t.Fatalf("the greatest number %d times: %d bits", n, b.N)
		}
	}
	if b := mustEncode(t, rows.Alike(math.MaxUint32, api.MaxList)); b.N != 324000 {
		t.Errorf("the greatest number %d times: %d bits", api.MaxList, b.N)
	}
}

func TestP9_3ZerosHaveShortCodes(t *testing.T) {
	for n := range api.MaxList + 1 {
		zeros := make([]uint32, n)
		if d := mustAfter(t, zeros); n >= 500 && d.K0 != 0 {
			t.Fatalf("behind %d zeros: %v", n, d)
		}
		if n > 600 && n%100 != 0 {
			continue
		}
		b := mustEncode(t, zeros)
		if b.N > 11*n || slices.Max(append(b.Bytes, 0)) != 0 {
			t.Fatalf("%d zeros: %d bits", n, b.N)
		}
	}
	// Behind the first ones of them each zero has one bit.
	if mustEncode(t, make([]uint32, 4000)).N != mustEncode(t, make([]uint32, 500)).N+3500 {
		t.Error("4000 zeros")
	}
}

func TestP1ListsAreOnlyRead(t *testing.T) {
	for _, l := range [][]uint32{{}, {5}, {5, 2000}, rows.AllSizes(3, 17), rows.AllSizes(4, 300)} {
		// The memory goes on behind the list: neither read nor written by any call.
		memory := append(slices.Clone(l), rows.Alike(77, 20)...)
		before := slices.Clone(memory)
		wantEncoded(t, memory[:len(l)])
		if !slices.Equal(memory, before) {
			t.Fatalf("%s was changed", name(l))
		}
	}
	room := make([]uint32, api.MaxList, 2*api.MaxList)
	wantEncoded(t, room)
}

func TestP1ResultsOfEncodeShareNoMemory(t *testing.T) {
	for _, l := range [][]uint32{{5}, rows.AllSizes(5, 16), rows.AllSizes(6, 17), rows.AllSizes(7, 500)} {
		one, other := mustEncode(t, l), mustEncode(t, l)
		want := bytes.Clone(other.Bytes)
		clear(one.Bytes)
		_ = append(one.Bytes, 0x3c)
		if !bytes.Equal(other.Bytes, want) || !rows.Same(mustEncode(t, l), other) {
			t.Fatalf("Encode of %s: a result changed with another one", name(l))
		}
	}
}

func TestP1BitsAreOnlyReadAndMemoryIsNotShared(t *testing.T) {
	calls := func(b api.Bits) []api.Bits {
		var made []api.Bits
		for n := -1; n < 12; n++ {
			l, at, e := coder.Decode(b, n)
			if e == api.OK {
				made = append(made, rows.Bits(rows.Code(append(l, uint32(at)))))
			}
		}
		return made
	}
	for _, s := range append(rows.Heads(), rows.Code(rows.AllSizes(2, 11)), rows.Code(make([]uint32, 9))) {
		if fault := rows.MemoryFault(s, calls); fault != "" {
			t.Fatalf("%q: %s", s, fault)
		}
	}
	l := rows.AllSizes(8, 100)
	b := mustEncode(t, l)
	one, _, _ := coder.Decode(b, 100)
	other, _, _ := coder.Decode(b, 100)
	clear(one)
	_ = append(one, 77)
	if !slices.Equal(other, l) {
		t.Error("a result of Decode changed with another one")
	}
}

// Bits that do not count, and bytes behind the length, are no part of a code.
func TestP1LooksAtTheLengthNotTheCapacity(t *testing.T) {
	memory := rows.Bits(rows.Code([]uint32{5, 2000, 9, 70000}) + strings.Repeat("0", 60))
	for length := range len(memory.Bytes) + 1 {
		b := api.Bits{Bytes: memory.Bytes[:length], N: 8 * length}
		text := rows.Text(memory)[:b.N]
		for n := range 6 {
			wantAsDefined(t, text, b, n)
		}
	}
}

// Whatever the arguments are: no call panics, and with an error all else is 0.
func TestP1ResultsForAllArguments(t *testing.T) {
	args := []api.Bits{{}, rows.Bits("1"), rows.Bits(rows.Noise(1, 65)), rows.Bits(strings.Repeat("1", 300)), rows.Bits(strings.Repeat("0", 300)), rows.Full(0), rows.Full(1)}
	for _, b := range rows.Broken() {
		args = append(args, b)
	}
	numbers := append([]int{0, 1, 2, 27, 500, api.MaxList, api.MaxList + 1, api.MaxBits, math.MaxInt}, rows.BadIndexes()...)
	for _, b := range args {
		for _, n := range numbers {
			l, at, e := coder.Decode(b, n)
			if e == api.OK && (len(l) != n || at < n || at > 81*n || at > b.N) || e != api.OK && (len(l) != 0 || at != 0) {
				t.Fatalf("Decode(%d bits, %d): %s, %d, %d", b.N, n, name(l), at, e)
			}
		}
	}
}

func TestP1NothingIsKeptFromCallToCall(t *testing.T) {
	text := rows.Code([]uint32{5, math.MaxUint32, 0})
	for range 3 {
		wantNotEncoded(t, make([]uint32, api.MaxList+1), api.ErrMany)
		wantNotDecoded(t, text, rows.Bits(text), -1, api.ErrArg)
		wantNotDecoded(t, text, rows.Bits(text), api.MaxList+1, api.ErrMany)
		wantNotDecoded(t, text, rows.Bits(text), 4, api.ErrShort)
		wantNotDecoded(t, text, api.Bits{N: 1}, 1, api.ErrBad)
		wantEncoded(t, []uint32{math.MaxUint32, 7, 9000})
		wantDecoded(t, text, rows.Bits(text), []uint32{5, math.MaxUint32}, 92)
		wantEncoded(t, nil)
	}
}
