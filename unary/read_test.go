package unary_test

import (
	"fmt"
	"math"
	"strings"
	"testing"

	"cadenza/api"
	"cadenza/internal/rows"
)

func TestP6_3AllNumbersAnywhere(t *testing.T) {
	for _, head := range rows.Heads() {
		for _, tail := range []string{"", "0", "1", "01", "10", strings.Repeat("0", 60), strings.Repeat("1", 60)} {
			for n := range 49 {
				text := head + run(n) + tail
				wantRead(t, text, rows.Bits(text), len(head), n, len(head)+len(run(n)))
			}
		}
	}
}

// wantFirstRuns looks at a text from each index on.
func wantFirstRuns(t *testing.T, text string) {
	t.Helper()
	b := rows.Bits(text)
	for at := range len(text) + 1 {
		n, length := firstRun(text[at:])
		if n < 0 {
			wantNotRead(t, text, b, at, api.ErrShort)
			continue
		}
		wantRead(t, text, b, at, n, at+length)
	}
}

func TestP6_3AllShortBits(t *testing.T) {
	for length := range 11 {
		for x := range 1 << length {
			wantFirstRuns(t, fmt.Sprintf("%011b", x)[11-length:])
		}
	}
}

func TestP6_3LongBitsWithManyOnes(t *testing.T) {
	for seed := range 40 {
		text := runs(manyNumbers(seed, 20))
		wantFirstRuns(t, text+strings.Repeat("1", seed))
		wantFirstRuns(t, strings.Repeat("1", seed)+text)
	}
	wantFirstRuns(t, rows.Noise(5, 300))
}

func TestP6_3OnesOnly(t *testing.T) {
	for n := range 130 {
		wantFirstRuns(t, strings.Repeat("1", n))
	}
}

func TestP6_3BitsThatEndBeforeTheRunDoes(t *testing.T) {
	for _, head := range rows.Heads() {
		for n := range 49 {
			for length := range len(run(n)) {
				wantNotRead(t, head, rows.Bits(head+run(n)[:length]), len(head), api.ErrShort)
			}
		}
	}
}

func TestP6_3FromTheEndOn(t *testing.T) {
	for _, text := range []string{"", "0", "1", "1110", strings.Repeat("1", 48), rows.Noise(6, 64), rows.Noise(7, 131)} {
		b := rows.Bits(text)
		for _, at := range []int{b.N, b.N + 1, b.N + 7, b.N + 8, b.N + 48, b.N + 64, api.MaxBits, 1 << 32, math.MaxInt - 48, math.MaxInt - 1, math.MaxInt} {
			wantNotRead(t, text, b, at, api.ErrShort)
		}
	}
	for _, b := range []api.Bits{{}, {Bytes: []byte{}}, {Bytes: []byte{0, 0}[:0]}} {
		wantNotRead(t, "nothing", b, 0, api.ErrShort)
	}
}

func TestP6_3FullBits(t *testing.T) {
	full := rows.Full(0)
	text := rows.Noise(7, api.MaxBits)
	for _, at := range []int{0, 1, 1000, 77777, 200001, api.MaxBits - 100, api.MaxBits - 50} {
		n, length := firstRun(text[at : at+49])
		wantRead(t, "full bits", full, at, n, at+length)
	}
	ones := rows.Bits(strings.Repeat("1", api.MaxBits))
	for at := api.MaxBits - 60; at <= api.MaxBits-48; at++ {
		wantRead(t, "as many ones as there may be", ones, at, 48, at+48)
	}
	for at := api.MaxBits - 47; at < api.MaxBits+10; at++ {
		wantNotRead(t, "as many ones as there may be", ones, at, api.ErrShort)
	}
}

// What stands behind the length of a slice, or in the bits that do not count, belongs to no run.
func TestP6_3LooksAtTheLengthNotTheCapacity(t *testing.T) {
	memory := []byte{255, 255, 255, 255, 255, 255, 255, 0}
	wantNotRead(t, "16 ones", api.Bits{Bytes: memory[:2], N: 16}, 0, api.ErrShort)
	wantNotRead(t, "40 ones", api.Bits{Bytes: memory[:5], N: 40}, 0, api.ErrShort)
	wantRead(t, "48 ones", api.Bits{Bytes: memory[:6], N: 48}, 0, 48, 48)
	wantNotRead(t, "a one", api.Bits{Bytes: []byte{1, 0}[:1], N: 1}, 0, api.ErrShort)
	wantNotRead(t, "seven ones", rows.Bits("1111111"), 0, api.ErrShort)
}

func TestP6_3RefusesInOrder(t *testing.T) {
	for what, b := range rows.Broken() {
		for _, at := range append([]int{0, 1, 9, api.MaxBits, math.MaxInt}, rows.BadIndexes()...) {
			wantNotRead(t, what, b, at, api.ErrBad)
		}
	}
	for _, at := range rows.BadIndexes() {
		for _, text := range []string{"", "0", "1", "0000000000", strings.Repeat("1", 200)} {
			wantNotRead(t, text, rows.Bits(text), at, api.ErrArg)
		}
	}
}
