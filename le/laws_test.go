package le_test

import (
	"bytes"
	"math"
	"slices"
	"testing"

	"cadenza/api"
	"cadenza/le"
)

func TestP1_4ReadIsWhatWasWritten(t *testing.T) {
	for w := 1; w <= 8; w++ {
		for _, n := range numbers() {
			if !unsignedFits(n, w) {
				continue
			}
			b := mustBytes(t, n, w)
			if got, e := le.Value(b); e != api.OK || got != n {
				t.Errorf("Value(Bytes(%d, %d)) = %d, %d", n, w, got, e)
			}
			for at := range 4 {
				inside := append(bytes.Repeat([]byte{0xa5}, at), b...)
				inside = append(inside, 0x5a, 0x5a)
				if got, e := le.At(inside, at, w); e != api.OK || got != n {
					t.Errorf("At(%v, %d, %d) = %d, %d", inside, at, w, got, e)
				}
			}
		}
	}
}

func TestP1_4WrittenIsWhatWasRead(t *testing.T) {
	source := []byte{0, 1, 255, 128, 127, 0, 0, 77, 200, 255, 255, 3, 0, 9, 0, 0, 0, 0, 0, 0, 0, 0, 254}
	for w := 1; w <= 8; w++ {
		for at := range len(source) - w + 1 {
			b := source[at : at+w]
			n, e := le.Value(b)
			if e != api.OK || !bytes.Equal(mustBytes(t, n, w), b) {
				t.Errorf("Bytes(Value(%v)), %d", b, e)
			}
		}
	}
}

// All strings of one and of two bytes are tried: each stands for one number, and no two for the same.
func TestP1_4BytesAreABijection(t *testing.T) {
	for w := 1; w <= 2; w++ {
		seen := make(map[string]bool)
		for n := range uint64(1) << (8 * w) {
			b := mustBytes(t, n, w)
			if seen[string(b)] {
				t.Fatalf("%v has two numbers", b)
			}
			seen[string(b)] = true
			if back, e := le.Value(b); e != api.OK || back != n {
				t.Fatalf("Value(%v) = %d, %d; want %d", b, back, e, n)
			}
		}
	}
}

func TestP1_4AGreaterWidthHasZerosBehind(t *testing.T) {
	for w := 1; w < 8; w++ {
		for _, n := range numbers() {
			if !unsignedFits(n, w) {
				continue
			}
			b := mustBytes(t, n, w)
			for wider := w + 1; wider <= 8; wider++ {
				want := append(slices.Clone(b), make([]byte, wider-w)...)
				if got := mustBytes(t, n, wider); !bytes.Equal(got, want) {
					t.Errorf("Bytes(%d, %d) = %v; want %v", n, wider, got, want)
				}
			}
		}
	}
}

func TestP1_4ComplementsAreABijection(t *testing.T) {
	for w := 1; w <= 2; w++ {
		count := uint64(1) << (8 * w)
		seen := make(map[int64]bool)
		for n := range count {
			x, e := le.Signed(n, w)
			if e != api.OK || seen[x] {
				t.Fatalf("Signed(%d, %d) = %d, %d", n, w, x, e)
			}
			seen[x] = true
			if back, e := le.Unsigned(x, w); e != api.OK || back != n {
				t.Fatalf("Unsigned(%d, %d) = %d, %d; want %d", x, w, back, e, n)
			}
		}
		// Those beside the range are refused, so that exactly the numbers that fit have been met.
		for x := -int64(count); x <= int64(count); x++ {
			if _, e := le.Unsigned(x, w); (e == api.OK) != seen[x] {
				t.Fatalf("Unsigned(%d, %d): %d", x, w, e)
			}
		}
	}
}

func TestP1_4ComplementsComeBackForEachWidth(t *testing.T) {
	for w := 1; w <= 8; w++ {
		for _, x := range signedNumbers() {
			n, e := le.Unsigned(x, w)
			if e != api.OK {
				continue
			}
			if back, e := le.Signed(n, w); e != api.OK || back != x {
				t.Errorf("Signed(Unsigned(%d, %d)) = %d, %d", x, w, back, e)
			}
		}
		for _, n := range numbers() {
			x, e := le.Signed(n, w)
			if e != api.OK {
				continue
			}
			if back, e := le.Unsigned(x, w); e != api.OK || back != n {
				t.Errorf("Unsigned(Signed(%d, %d)) = %d, %d", n, w, back, e)
			}
		}
	}
}

func TestP1_4ComplementsKeepSums(t *testing.T) {
	for w := 1; w <= 8; w++ {
		for _, x := range signedNumbers() {
			for _, y := range signedNumbers() {
				if !signedFits(x, w) || !signedFits(y, w) {
					continue
				}
				sum := x + y
				wrapped := (x < 0) == (y < 0) && (sum < 0) != (x < 0)
				if wrapped || !signedFits(sum, w) {
					continue
				}
				a, _ := le.Unsigned(x, w)
				b, _ := le.Unsigned(y, w)
				if n, e := le.Unsigned(sum, w); e != api.OK || n != modulo(a, b, w) {
					t.Fatalf("width %d: %d of %d and %d of %d, but %d of their sum, %d", w, a, x, b, y, n, e)
				}
			}
		}
	}
}

func TestP1ArgumentsAreOnlyRead(t *testing.T) {
	whole := []byte{1, 2, 3, 4, 5, 6, 7, 8, 9, 10, 11, 12}
	before := slices.Clone(whole)
	for size := range len(whole) + 1 {
		le.Value(whole[:size])
		for at := -1; at <= size+1; at++ {
			for w := 0; w <= 9; w++ {
				le.At(whole[:size], at, w)
			}
		}
		if !bytes.Equal(whole, before) {
			t.Fatalf("with %d bytes: %v", size, whole)
		}
	}
}

func TestP1ResultsShareNoMemory(t *testing.T) {
	for w := 1; w <= 8; w++ {
		first := mustBytes(t, 1, w)
		second := mustBytes(t, 1, w)
		for i := range first {
			first[i] = 99
		}
		_ = append(first, 99, 99, 99, 99, 99, 99, 99, 99)
		want := append([]byte{1}, make([]byte, w-1)...)
		if !bytes.Equal(second, want) || !bytes.Equal(mustBytes(t, 1, w), want) {
			t.Errorf("width %d: a result changed with another one", w)
		}
	}
}

func TestP1NothingIsKeptFromCallToCall(t *testing.T) {
	for range 3 {
		le.Bytes(math.MaxUint64, 8)
		le.Bytes(256, 1)
		le.Signed(0, 99)
		le.Unsigned(math.MinInt64, 2)
		le.At(nil, -1, 0)
		le.Value(nil)
		if b, e := le.Bytes(5, 3); e != api.OK || !bytes.Equal(b, []byte{5, 0, 0}) {
			t.Error("Bytes", b, e)
		}
		if n, e := le.Value([]byte{5, 0, 1}); e != api.OK || n != 65541 {
			t.Error("Value", n, e)
		}
		if n, e := le.At([]byte{9, 5, 0, 1}, 1, 3); e != api.OK || n != 65541 {
			t.Error("At", n, e)
		}
		if x, e := le.Signed(254, 1); e != api.OK || x != -2 {
			t.Error("Signed", x, e)
		}
		if n, e := le.Unsigned(-2, 1); e != api.OK || n != 254 {
			t.Error("Unsigned", n, e)
		}
	}
}

// A call with an error has zero values as its other results, and no call panics.
func TestP1ErrorsComeWithZeroValuesForAllArguments(t *testing.T) {
	ints := append([]int{1, 2, 3, 4, 5, 6, 7, 8}, badWidths...)
	for _, w := range ints {
		for _, n := range numbers() {
			if b, e := le.Bytes(n, w); (e == api.OK) != (len(b) > 0) {
				t.Fatalf("Bytes(%d, %d) = %v, %d", n, w, b, e)
			}
			if x, e := le.Signed(n, w); e != api.OK && x != 0 {
				t.Fatalf("Signed(%d, %d) = %d, %d", n, w, x, e)
			}
			if m, e := le.Unsigned(int64(n), w); e != api.OK && m != 0 {
				t.Fatalf("Unsigned(%d, %d) = %d, %d", int64(n), w, m, e)
			}
		}
		for _, at := range ints {
			for size := range 12 {
				if n, e := le.At(bytes.Repeat([]byte{7}, size), at, w); (e == api.OK) != (n != 0) {
					t.Fatalf("At of %d bytes (%d, %d) = %d, %d", size, at, w, n, e)
				}
			}
		}
	}
}
