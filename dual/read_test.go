package dual_test

import (
	"fmt"
	"math"
	"strings"
	"testing"

	"cadenza/api"
	"cadenza/internal/rows"
)

func TestP8_3Examples(t *testing.T) {
	wantRead(t, "5", rows.Bits("01010000000"), 0, first, 5, 11)
	wantRead(t, "2000", rows.Bits("1"+"0"+"0000101111"), 0, first, 2000, 12)
	wantRead(t, "5 and 2000", rows.Bits("01010000000"+"1"+"10"+"0000101110"), 11, api.Dual{K0: 9, K1: 10, Sum0: 15365, Sum1: 16384}, 2000, 24)
	wantRead(t, "a zero", rows.Bits("0"), 0, api.Dual{}, 0, 1)
	wantRead(t, "a one and a zero", rows.Bits("10"), 0, api.Dual{}, 1, 2)
}

func TestP8_3InAllStatesAnywhere(t *testing.T) {
	tails := []string{"", "0", "1", strings.Repeat("0", 90), strings.Repeat("1", 90)}
	for i, d := range append(rows.AllKs(), states()...) {
		head := rows.Noise(i, i%67)
		for j, v := range rows.DualNumbers(d) {
			text := head + rows.Dual(d, v) + tails[j%len(tails)]
			wantRead(t, text, rows.Bits(text), len(head), d, v, len(head)+len(rows.Dual(d, v)))
		}
	}
}

func TestP8_3BehindBits(t *testing.T) {
	for _, head := range rows.Heads() {
		for _, d := range []api.Dual{first, {}, {K0: 1, K1: 7}, {K0: 24, K1: 24}, {K0: 8, K1: 0, Sum0: rows.MaxSum, Sum1: rows.MaxSum}} {
			for _, v := range []uint32{0, 1, 100, 255, 256, 1000, 1024, 1 << 24, 1 << 30, math.MaxUint32} {
				text := head + rows.Dual(d, v) + "10"
				wantRead(t, text, rows.Bits(text), len(head), d, v, len(head)+len(rows.Dual(d, v)))
			}
		}
	}
}

// wantFirstCodes looks at a text from each index on.
func wantFirstCodes(t *testing.T, text string, d api.Dual) {
	t.Helper()
	b := rows.Bits(text)
	for at := range len(text) + 1 {
		v, length, e := rows.FirstDual(text[at:], d)
		if e != api.OK {
			wantNotRead(t, text, b, at, d, e)
			continue
		}
		wantRead(t, text, b, at, d, v, at+length)
	}
}

func TestP8_3AllShortBits(t *testing.T) {
	for k0 := range 5 {
		for k1 := range 5 {
			d := api.Dual{K0: k0, K1: k1, Sum0: 40, Sum1: 50}
			for length := range 10 {
				for x := range uint64(1) << length {
					wantFirstCodes(t, rows.Digits(x, length), d)
				}
			}
		}
	}
}

func TestP8_3LongBits(t *testing.T) {
	for i, d := range rows.AllKs() {
		wantFirstCodes(t, rows.Noise(i, 150), d)
		wantFirstCodes(t, strings.Repeat("1", 49)+rows.Noise(i, 90), d)
	}
	for _, d := range []api.Dual{first, {}, {K0: 24, K1: 3}, {K0: 3, K1: 24}} {
		wantFirstCodes(t, strings.Repeat("1", 190), d)
		wantFirstCodes(t, strings.Repeat("0", 190), d)
	}
}

func TestP8_3BitsThatEndBeforeTheCodeDoes(t *testing.T) {
	for i, d := range rows.AllKs() {
		head := rows.Noise(i, i%41)
		for _, left := range []uint32{0, 1, 47 << d.K1, 48 << d.K1, 1 << 31} {
			for _, v := range []uint32{left, left + uint32(rows.Power(d.K0)), math.MaxUint32} {
				for length := range len(rows.Dual(d, v)) {
					wantNotRead(t, head, rows.Bits(head+rows.Dual(d, v)[:length]), len(head), d, api.ErrShort)
				}
			}
		}
	}
}

func TestP8_3FromTheEndOn(t *testing.T) {
	for _, text := range []string{"", "0", "1", "1110", strings.Repeat("1", 81), rows.Noise(6, 64), rows.Noise(7, 131)} {
		b := rows.Bits(text)
		for _, at := range []int{b.N, b.N + 1, b.N + 8, b.N + 81, api.MaxBits, 1 << 32, math.MaxInt - 81, math.MaxInt - 1, math.MaxInt} {
			for _, d := range []api.Dual{first, {}, {K0: 24}, {K1: 24}} {
				wantNotRead(t, text, b, at, d, api.ErrShort)
			}
		}
	}
	for _, b := range []api.Bits{{}, {Bytes: []byte{}}, {Bytes: []byte{0, 0}[:0]}} {
		wantNotRead(t, "nothing", b, 0, api.Dual{}, api.ErrShort)
	}
}

func TestP8_3RefusesWhatRiceRefuses(t *testing.T) {
	ones := strings.Repeat("1", 49)
	for _, d := range rows.AllKs() {
		least := 48 * rows.Power(d.K1)
		for _, left := range []uint64{0, 1, 47, least / 2, least - 1} {
			for _, tail := range []string{"", "0", "11111111"} {
				text := "01" + ones + rows.Digits(left, 32) + tail
				wantNotRead(t, fmt.Sprint("MaxRun and ", left), rows.Bits(text), 2, d, api.ErrForm)
			}
		}
		text := ones + rows.Digits(least, 32)
		wantRead(t, fmt.Sprint("MaxRun and ", least), rows.Bits(text), 0, d, uint32(least+rows.Power(d.K0)), 81)
	}
}

func TestP8_3RefusesNumbersThatAreTooGreat(t *testing.T) {
	ones := strings.Repeat("1", 49)
	for _, d := range rows.AllKs() {
		for _, head := range []string{"", "0", rows.Noise(d.K1, 13)} {
			for _, tail := range []string{"", "0", "11111111"} {
				greatest := uint64(math.MaxUint32) - rows.Power(d.K0)
				for _, left := range []uint64{greatest + 1, greatest + rows.Power(d.K0)/2 + 1, math.MaxUint32} {
					text := head + ones + rows.Digits(left, 32) + tail
					wantNotRead(t, fmt.Sprint("MaxRun and ", left), rows.Bits(text), len(head), d, api.ErrForm)
				}
				text := head + ones + rows.Digits(greatest, 32) + tail
				wantRead(t, fmt.Sprint("MaxRun and ", greatest), rows.Bits(text), len(head), d, math.MaxUint32, len(head)+81)
			}
		}
	}
}

// As long as not all bits are there, there is no number that could be refused.
func TestP8_3TooFewBitsOfARefusedNumberAreTooFew(t *testing.T) {
	for _, text := range []string{strings.Repeat("1", 49) + strings.Repeat("0", 32), strings.Repeat("1", 81)} {
		for _, d := range []api.Dual{first, {}, {K0: 24, K1: 24}} {
			for length := range len(text) {
				wantNotRead(t, text[:length], rows.Bits(text[:length]), 0, d, api.ErrShort)
			}
			wantNotRead(t, text, rows.Bits(text), 0, d, api.ErrForm)
		}
	}
}

func TestP8_3FullBits(t *testing.T) {
	full := rows.Full(0)
	text := rows.Noise(7, api.MaxBits)
	for _, at := range []int{0, 1, 1000, 77777, 200001, api.MaxBits - 200, api.MaxBits - 90} {
		for _, d := range rows.AllKs() {
			v, length, e := rows.FirstDual(text[at:at+81], d)
			if e != api.OK {
				t.Fatal(at, d, e)
			}
			wantRead(t, "full bits", full, at, d, v, at+length)
		}
	}
	for at := api.MaxBits - 30; at < api.MaxBits+10; at++ {
		for _, d := range []api.Dual{first, {K0: 24}, {}} {
			v, length, e := rows.FirstDual(text[min(at, api.MaxBits):], d)
			if e != api.OK {
				wantNotRead(t, "full bits", full, at, d, e)
				continue
			}
			wantRead(t, "full bits", full, at, d, v, at+length)
		}
	}
}

// What stands behind the length of a slice, or in the bits that do not count, belongs to no code.
func TestP8_3LooksAtTheLengthNotTheCapacity(t *testing.T) {
	memory := []byte{255, 255, 255, 255, 255, 255, 255, 255, 255, 255, 1, 0}
	for n := range 11 {
		wantNotRead(t, fmt.Sprint(n, " bytes of ones"), api.Bits{Bytes: memory[:n], N: 8 * n}, 0, first, api.ErrShort)
	}
	wantNotRead(t, "81 ones", api.Bits{Bytes: memory[:11], N: 81}, 0, first, api.ErrForm)
	wantNotRead(t, "ten zeros", api.Bits{Bytes: []byte{0, 0, 0}[:2], N: 10}, 0, first, api.ErrShort)
	wantNotRead(t, "sixteen zeros", api.Bits{Bytes: []byte{0, 0, 0}[:2], N: 16}, 0, api.Dual{K0: 16}, api.ErrShort)
	wantRead(t, "eleven zeros", api.Bits{Bytes: []byte{0, 0, 0}[:2], N: 11}, 0, first, 0, 11)
}

func TestP8_3RefusesInOrder(t *testing.T) {
	indexes := append([]int{0, 1, 9, api.MaxBits, math.MaxInt}, rows.BadIndexes()...)
	for what, b := range rows.Broken() {
		for _, at := range indexes {
			for _, d := range append(rows.BrokenDuals(), first, api.Dual{}) {
				wantNotRead(t, what, b, at, d, api.ErrBad)
			}
		}
	}
	for _, text := range []string{"", "0", "1", "0000000000", strings.Repeat("1", 200), strings.Repeat("1", 49) + strings.Repeat("0", 32)} {
		for _, at := range indexes {
			for _, d := range rows.BrokenDuals() {
				wantNotRead(t, text, rows.Bits(text), at, d, api.ErrBad)
			}
		}
		for _, at := range rows.BadIndexes() {
			for _, d := range []api.Dual{first, {}, {K0: 24, K1: 24, Sum0: rows.MaxSum, Sum1: rows.MaxSum}} {
				wantNotRead(t, text, rows.Bits(text), at, d, api.ErrArg)
			}
		}
	}
}
