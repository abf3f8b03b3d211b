package unary_test

import (
	"math"
	"strings"
	"testing"

	"cadenza/api"
	"cadenza/bits"
	"cadenza/internal/rows"
	"cadenza/unary"
)

func TestP6_4NoRunBeginsAnotherOne(t *testing.T) {
	for n := range 49 {
		for m := range 49 {
			a, b := written(t, []int{n}), written(t, []int{m})
			if n == m || a.N > b.N {
				continue
			}
			if head, e := bits.Cut(b, 0, a.N); e != api.OK || rows.Same(head, a) {
				t.Errorf("the run of %d begins that of %d, or is it", n, m)
			}
		}
	}
}

func wantReadAgain(t *testing.T, l []int) {
	t.Helper()
	b := written(t, l)
	at := 0
	for i, want := range l {
		n, next, e := unary.Read(b, at)
		if e != api.OK || n != want || next != at+mustLength(t, want) {
			t.Fatalf("%v: number %d at %d is read as %d, %d, %d", l, i, at, n, next, e)
		}
		at = next
	}
	if at != b.N {
		t.Fatalf("%v: %d bits, of which %d are read", l, b.N, at)
	}
	wantNotRead(t, "all runs", b, at, api.ErrShort)
}

func TestP6_4RunsBehindEachOtherAreReadAsTheNumbers(t *testing.T) {
	for n := range 49 {
		for m := range 49 {
			wantReadAgain(t, []int{n, m})
		}
		wantReadAgain(t, []int{48, n, 48, 48, n, n, 47, n})
	}
	for seed := range 60 {
		wantReadAgain(t, manyNumbers(seed, 5*seed))
	}
}

// What is read, and written again, are the same bits: no other numbers have them, and what is left behind them is no run.
func TestP6_4RunsAreReadInOneWay(t *testing.T) {
	for seed := range 80 {
		text := rows.Noise(seed, 3*seed) + strings.Repeat("1", 2*seed)
		b := rows.Bits(text)
		var l []int
		at := 0
		for {
			n, next, e := unary.Read(b, at)
			if e != api.OK {
				break
			}
			if next <= at || next > b.N {
				t.Fatalf("%q: from %d to %d", text, at, next)
			}
			l = append(l, n)
			at = next
		}
		if again := written(t, l); !rows.Same(again, rows.Bits(text[:at])) {
			t.Fatalf("%q: %v are read, and written again %v", text, l, again)
		}
		if rest := text[at:]; len(rest) >= 48 || strings.Contains(rest, "0") {
			t.Fatalf("%q: %q is left", text, rest)
		}
	}
}

// From an index on there is a run, or there are too few bits: ones, all that there are, and fewer than MaxRun.
func TestP6_4FromEachIndexOnThereIsARunOrThereAreTooFewBits(t *testing.T) {
	for seed := range 30 {
		text := runs(manyNumbers(seed, 10)) + strings.Repeat("1", 2*seed)
		for at := range len(text) + 1 {
			rest := text[at:]
			tooFew := len(rest) < 48 && !strings.Contains(rest, "0")
			_, _, e := unary.Read(rows.Bits(text), at)
			if (e == api.ErrShort) != tooFew || (e == api.OK) == tooFew {
				t.Fatalf("%q at %d: %d", text, at, e)
			}
		}
	}
}

func TestP6_4AGreaterNumberHasALongerRun(t *testing.T) {
	for n := 1; n < 48; n++ {
		if mustLength(t, n) <= mustLength(t, n-1) {
			t.Errorf("%d has no longer run than %d", n, n-1)
		}
	}
	if mustLength(t, 48) != mustLength(t, 47) {
		t.Error("the run of 48 is not as long as that of 47")
	}
}

func TestP6_4LengthIsWhatIsWritten(t *testing.T) {
	for n := range 49 {
		if b := written(t, []int{n}); b.N != mustLength(t, n) {
			t.Errorf("%d: %d bits, but Length %d", n, b.N, mustLength(t, n))
		}
	}
}

func TestP1ArgumentsAreOnlyReadAndMemoryIsNotShared(t *testing.T) {
	calls := func(b api.Bits) []api.Bits {
		var l []api.Bits
		for _, n := range []int{0, 1, 7, 8, 47, 48, -1, 49} {
			c, _ := unary.Write(b, n)
			l = append(l, c)
		}
		for at := -1; at <= b.N+1; at++ {
			unary.Read(b, at)
		}
		return l
	}
	for _, text := range append(rows.Heads(), strings.Repeat("1", 100)) {
		if fault := rows.MemoryFault(text, calls); fault != "" {
			t.Fatalf("%q: %s", text, fault)
		}
	}
}

// Whatever the arguments are: no call panics, written bits are valid, what is read is a number with a run, and with an error all else is 0.
func TestP1ResultsAreValidForAllArguments(t *testing.T) {
	args := []api.Bits{{}, rows.Bits("1"), rows.Bits(rows.Noise(1, 65)), rows.Bits(strings.Repeat("1", 77)), rows.Full(0), rows.Full(1)}
	for _, b := range rows.Broken() {
		args = append(args, b)
	}
	ints := append([]int{0, 1, 7, 8, 47, 48, api.MaxBits - 1, api.MaxBits, math.MaxInt}, badNumbers...)
	for _, b := range args {
		for _, i := range append(ints, rows.BadIndexes()...) {
			c, e := unary.Write(b, i)
			if bits.Check(c) != api.OK || e != api.OK && c.N != 0 {
				t.Fatalf("Write(%d bits, %d): %d bits, %d bytes, %d", b.N, i, c.N, len(c.Bytes), e)
			}
			n, next, e := unary.Read(b, i)
			if n < 0 || n > 48 || e == api.OK && (next <= i || next > b.N) || e != api.OK && (n != 0 || next != 0) {
				t.Fatalf("Read(%d bits, %d): %d, %d, %d", b.N, i, n, next, e)
			}
		}
	}
}

func TestP1NothingIsKeptFromCallToCall(t *testing.T) {
	b := rows.Bits("0" + run(48) + run(5))
	for range 3 {
		wantNotRead(t, "bits", b, -1, api.ErrArg)
		wantNotRead(t, "bits", b, b.N, api.ErrShort)
		wantNotWritten(t, "bits", b, 49, api.ErrArg)
		wantRead(t, "bits", b, 1, 48, 49)
		wantRead(t, "bits", b, 49, 5, 55)
		wantRead(t, "bits", b, 0, 0, 1)
		wantWritten(t, "01", 3)
		if mustLength(t, 3) != 4 {
			t.Error("Length(3)")
		}
	}
}
