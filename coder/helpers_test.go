package coder_test

import (
	"fmt"
	"math"
	"slices"
	"strings"
	"testing"

	"cadenza/api"
	"cadenza/coder"
	"cadenza/internal/rows"
)

// tooMany are numbers of numbers that no list may have; some would be allowed if they were cut to fewer bits.
var tooMany = []int{api.MaxList + 1, api.MaxList + 2, 4096, 8000, 1 << 16, 1<<16 + 5, api.MaxBits}

// short are lists of all kinds, most of them with all numbers of numbers up to 40.
func short() [][]uint32 {
	l := [][]uint32{nil, {}, {1000, 2000, 3000, 0, 0}, {1023, 1024, 511, 512, 255, 256}}
	for _, v := range rows.DualNumbers(rows.Start()) {
		l = append(l, []uint32{v})
	}
	for n := range 41 {
		l = append(l, alike(0, n), alike(math.MaxUint32, n), rows.AllSizes(n, n), picked(n, n), waves(n, n, 5))
	}
	return append(l, rows.AllSizes(1, 64), picked(2, 65), picked(3, 130), waves(4, 257, 40))
}

// long are lists with as many numbers as there may be, or almost as many.
func long() [][]uint32 {
	return [][]uint32{
		alike(0, 4000), alike(1, 3999), alike(math.MaxUint32, 4000), rows.AllSizes(5, 4000), rows.AllSizes(6, 3989), waves(7, 4000, 300),
		slices.Concat(alike(math.MaxUint32, 700), alike(0, 700), alike(100000, 700)),
		slices.Concat(alike(0, 2000), alike(math.MaxUint32, 2000)),
	}
}

// alike are n times the same number.
func alike(v uint32, n int) []uint32 { return slices.Repeat([]uint32{v}, n) }

// picked are n numbers, each of which is near a limit in the state behind those before it.
func picked(seed, n int) []uint32 {
	var l []uint32
	d, at := rows.Start(), seed
	for _, x := range rows.AllSizes(seed, n) {
		near := rows.DualNumbers(d)
		at = (at + int(x)) % len(near)
		l = append(l, near[at])
		d = rows.Behind(d, near[at])
	}
	return l
}

// waves are n numbers: some small ones, and then some greater ones, again and again, so that the state learns much.
func waves(seed, n, length int) []uint32 {
	l := rows.AllSizes(seed, n)
	for i := range l {
		l[i] >>= (i / length * 7) % 32
	}
	return l
}

// code is the code of numbers as a text of zeros and ones, as the chapter defines it, and the state behind them.
func code(l []uint32) (string, api.Dual) {
	var text strings.Builder
	d := rows.Start()
	for _, v := range l {
		text.WriteString(rows.Dual(d, v))
		d = rows.Behind(d, v)
	}
	return text.String(), d
}

// textOf is the text of code alone.
func textOf(l []uint32) string {
	text, _ := code(l)
	return text
}

// decoded are the n numbers with whose code a text begins, and how long it is; the error of the first one that has one.
func decoded(text string, n int) (l []uint32, at int, e api.Errno) {
	d := rows.Start()
	for range n {
		v, length, e := rows.FirstDual(text[at:], d)
		if e != api.OK {
			return nil, 0, e
		}
		l = append(l, v)
		at += length
		d = rows.Behind(d, v)
	}
	return l, at, api.OK
}

// name tells which list it is.
func name(l []uint32) string {
	return fmt.Sprint(len(l), " numbers ", l[:min(len(l), 12)])
}

func wantEncoded(t *testing.T, l []uint32) {
	t.Helper()
	text, d := code(l)
	if b, e := coder.Encode(l); e != api.OK || !rows.Same(b, rows.Bits(text)) {
		t.Fatalf("Encode of %s: %d bits, %d; want %d bits", name(l), b.N, e, len(text))
	}
	if x, e := coder.After(l); e != api.OK || x != d {
		t.Fatalf("After %s: %v, %d; want %v", name(l), x, e, d)
	}
}

func wantNotEncoded(t *testing.T, l []uint32, want api.Errno) {
	t.Helper()
	if b, e := coder.Encode(l); e != want || b.N != 0 || len(b.Bytes) != 0 {
		t.Fatalf("Encode of %s: %d bits, %d bytes, %d; want error %d", name(l), b.N, len(b.Bytes), e, want)
	}
	if d, e := coder.After(l); e != want || d != (api.Dual{}) {
		t.Fatalf("After %s: %v, %d; want error %d", name(l), d, e, want)
	}
}

func wantDecoded(t *testing.T, what string, b api.Bits, want []uint32, wantAt int) {
	t.Helper()
	l, at, e := coder.Decode(b, len(want))
	if e != api.OK || at != wantAt || !slices.Equal(l, want) {
		t.Fatalf("Decode of %s: %s in %d bits, %d; want %s in %d", what, name(l), at, e, name(want), wantAt)
	}
}

func wantNotDecoded(t *testing.T, what string, b api.Bits, n int, want api.Errno) {
	t.Helper()
	l, at, e := coder.Decode(b, n)
	if e != want || at != 0 || len(l) != 0 {
		t.Fatalf("Decode of %s with %d numbers: %s in %d bits, %d; want error %d", what, n, name(l), at, e, want)
	}
}

// wantAsDefined decodes n numbers of bits, of which the text is known, as the chapter defines it.
func wantAsDefined(t *testing.T, text string, b api.Bits, n int) {
	t.Helper()
	what := fmt.Sprint(len(text), " bits ", text[:min(len(text), 200)])
	if l, at, e := decoded(text, n); e != api.OK {
		wantNotDecoded(t, what, b, n, e)
	} else {
		wantDecoded(t, what, b, l, at)
	}
}

// mustEncode is the code of numbers as Encode makes it.
func mustEncode(t *testing.T, l []uint32) api.Bits {
	t.Helper()
	b, e := coder.Encode(l)
	if e != api.OK {
		t.Fatalf("Encode of %s: %d", name(l), e)
	}
	return b
}

// mustAfter is the state behind numbers as After makes it.
func mustAfter(t *testing.T, l []uint32) api.Dual {
	t.Helper()
	d, e := coder.After(l)
	if e != api.OK {
		t.Fatalf("After %s: %d", name(l), e)
	}
	return d
}
