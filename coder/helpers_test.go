package coder_test

import (
	"fmt"
	"slices"
	"testing"

	"cadenza/api"
	"cadenza/coder"
	"cadenza/internal/rows"
)

// decoded are the n numbers with whose code a text begins, and how long it is; the error of the first one that has one.
func decoded(text string, n int) (l []uint32, at int, e api.Errno) {
	d := rows.Start()
	for range n {
		v, length, e := rows.FirstDual(text[at:], d)
		if e != api.OK {
			return nil, 0, e
		}
		l = append(l, v)
		at += length
		d = rows.Behind(d, v)
	}
	return l, at, api.OK
}

// name tells which list it is.
func name(l []uint32) string {
	return fmt.Sprint(len(l), " numbers ", l[:min(len(l), 12)])
}

func wantEncoded(t *testing.T, l []uint32) {
	t.Helper()
	text, d := rows.Code(l), rows.BehindAll(l)
	if b, e := coder.Encode(l); e != api.OK || !rows.Same(b, rows.Bits(text)) {
		t.Fatalf("Encode of %s: %d bits, %d; want %d bits", name(l), b.N, e, len(text))
	}
	if x, e := coder.After(l); e != api.OK || x != d {
		t.Fatalf("After %s: %v, %d; want %v", name(l), x, e, d)
	}
}

func wantNotEncoded(t *testing.T, l []uint32, want api.Errno) {
	t.Helper()
	if b, e := coder.Encode(l); e != want || b.N != 0 || len(b.Bytes) != 0 {
		t.Fatalf("Encode of %s: %d bits, %d bytes, %d; want error %d", name(l), b.N, len(b.Bytes), e, want)
	}
	if d, e := coder.After(l); e != want || d != (api.Dual{}) {
		t.Fatalf("After %s: %v, %d; want error %d", name(l), d, e, want)
	}
}

func wantDecoded(t *testing.T, what string, b api.Bits, want []uint32, wantAt int) {
	t.Helper()
	l, at, e := coder.Decode(b, len(want))
	if e != api.OK || at != wantAt || !slices.Equal(l, want) {
		t.Fatalf("Decode of %s: %s in %d bits, %d; want %s in %d", what, name(l), at, e, name(want), wantAt)
	}
}

func wantNotDecoded(t *testing.T, what string, b api.Bits, n int, want api.Errno) {
	t.Helper()
	l, at, e := coder.Decode(b, n)
	if e != want || at != 0 || len(l) != 0 {
		t.Fatalf("Decode of %s with %d numbers: %s in %d bits, %d; want error %d", what, n, name(l), at, e, want)
	}
}

// wantAsDefined decodes n numbers of bits, of which the text is known, as the chapter defines it.
func wantAsDefined(t *testing.T, text string, b api.Bits, n int) {
	t.Helper()
	what := fmt.Sprint(len(text), " bits ", text[:min(len(text), 200)])
	if l, at, e := decoded(text, n); e != api.OK {
		wantNotDecoded(t, what, b, n, e)
	} else {
		wantDecoded(t, what, b, l, at)
	}
}

// mustEncode is the code of numbers as Encode makes it.
func mustEncode(t *testing.T, l []uint32) api.Bits {
	t.Helper()
	b, e := coder.Encode(l)
	if e != api.OK {
		t.Fatalf("Encode of %s: %d", name(l), e)
	}
	return b
}

// mustAfter is the state behind numbers as After makes it.
func mustAfter(t *testing.T, l []uint32) api.Dual {
	t.Helper()
	d, e := coder.After(l)
	if e != api.OK {
		t.Fatalf("After %s: %d", name(l), e)
	}
	return d
}
