package rice_test

import (
	"fmt"
	"math"
	"strings"
	"testing"

	"cadenza/api"
	"cadenza/internal/rows"
)

func TestP7_3AllParametersAnywhere(t *testing.T) {
	tails := []string{"", "0", "1", strings.Repeat("0", 90), strings.Repeat("1", 90)}
	for k := range 25 {
		for _, v := range rows.RiceNumbers(k) {
			for _, head := range []string{"", "1", "1011010", "00000000", rows.Noise(k, 67)} {
				for _, tail := range tails {
					text := head + rows.Rice(v, k) + tail
					wantRead(t, text, rows.Bits(text), len(head), k, v, len(head)+len(rows.Rice(v, k)))
				}
			}
		}
	}
	for _, head := range rows.Heads() {
		for _, k := range []int{0, 1, 7, 8, 24} {
			for _, v := range []uint32{0, 1, 100, 47 << k, 48<<k - 1, 48 << k, math.MaxUint32} {
				text := head + rows.Rice(v, k) + "10"
				wantRead(t, text, rows.Bits(text), len(head), k, v, len(head)+len(rows.Rice(v, k)))
			}
		}
	}
}

// wantFirstCodes looks at a text from each index on.
func wantFirstCodes(t *testing.T, text string, k int) {
	t.Helper()
	b := rows.Bits(text)
	for at := range len(text) + 1 {
		v, length, e := rows.FirstRice(text[at:], k)
		if e != api.OK {
			wantNotRead(t, text, b, at, k, e)
			continue
		}
		wantRead(t, text, b, at, k, v, at+length)
	}
}

func TestP7_3AllShortBits(t *testing.T) {
	for k := range 12 {
		for length := range 11 {
			for x := range uint64(1) << length {
				wantFirstCodes(t, rows.Digits(x, length), k)
			}
		}
	}
}

func TestP7_3LongBits(t *testing.T) {
	for k := range 25 {
		wantFirstCodes(t, rows.Noise(k, 300), k)
		wantFirstCodes(t, strings.Repeat("1", 48)+rows.Noise(k, 200), k)
		wantFirstCodes(t, strings.Repeat("1", 130), k)
		wantFirstCodes(t, strings.Repeat("0", 130), k)
		text := ""
		for _, v := range rows.RiceNumbers(k) {
			text += rows.Rice(v, k)
		}
		wantFirstCodes(t, text[:2000], k)
	}
}

func TestP7_3BitsThatEndBeforeTheCodeDoes(t *testing.T) {
	for k := range 25 {
		for _, v := range []uint32{0, 1, 1000, 47 << k, 48<<k - 1, 48 << k, 1 << 31, math.MaxUint32} {
			for _, head := range []string{"", "1", "0000000", rows.Noise(k, 41)} {
				for length := range len(rows.Rice(v, k)) {
					wantNotRead(t, head, rows.Bits(head+rows.Rice(v, k)[:length]), len(head), k, api.ErrShort)
				}
			}
		}
	}
}

func TestP7_3FromTheEndOn(t *testing.T) {
	for _, text := range []string{"", "0", "1", "1110", strings.Repeat("1", 80), rows.Noise(6, 64), rows.Noise(7, 131)} {
		b := rows.Bits(text)
		for _, at := range []int{b.N, b.N + 1, b.N + 8, b.N + 80, api.MaxBits, 1 << 32, math.MaxInt - 80, math.MaxInt - 1, math.MaxInt} {
			for k := range 25 {
				wantNotRead(t, text, b, at, k, api.ErrShort)
			}
		}
	}
	for _, b := range []api.Bits{{}, {Bytes: []byte{}}, {Bytes: []byte{0, 0}[:0]}} {
		wantNotRead(t, "nothing", b, 0, 0, api.ErrShort)
	}
}

func TestP7_3RefusesNumbersThatHaveAShorterCode(t *testing.T) {
	ones := strings.Repeat("1", 48)
	for k := range 25 {
		least := 48 * rows.Power(k)
		for _, n := range []uint64{0, 1, 47, rows.Power(k) - 1, rows.Power(k), least / 2, least - rows.Power(k), least - 2, least - 1} {
			for _, head := range []string{"", "01", rows.Noise(k, 13)} {
				for _, tail := range []string{"", "0", "11111111"} {
					text := head + ones + rows.Digits(n, 32) + tail
					wantNotRead(t, fmt.Sprint("MaxRun and ", n), rows.Bits(text), len(head), k, api.ErrForm)
				}
			}
		}
		for _, n := range []uint64{least, least + 1, 2 * least, rows.Power(31), rows.Power(32) - 1} {
			text := ones + rows.Digits(n, 32)
			wantRead(t, fmt.Sprint("MaxRun and ", n), rows.Bits(text), 0, k, uint32(n), 80)
		}
	}
}

// As long as not all bits are there, there is no number that could be refused.
func TestP7_3TooFewBitsOfARefusedNumberAreTooFew(t *testing.T) {
	text := strings.Repeat("1", 48) + strings.Repeat("0", 32)
	for k := range 25 {
		for length := range len(text) {
			wantNotRead(t, text[:length], rows.Bits(text[:length]), 0, k, api.ErrShort)
		}
		wantNotRead(t, text, rows.Bits(text), 0, k, api.ErrForm)
	}
}

func TestP7_3FullBits(t *testing.T) {
	full := rows.Full(0)
	text := rows.Noise(7, api.MaxBits)
	for _, at := range []int{0, 1, 1000, 77777, 200001, api.MaxBits - 200, api.MaxBits - 90} {
		for k := range 25 {
			v, length, e := rows.FirstRice(text[at:at+80], k)
			if e != api.OK {
				t.Fatal(at, k, e)
			}
			wantRead(t, "full bits", full, at, k, v, at+length)
		}
	}
	ones := rows.Bits(strings.Repeat("1", api.MaxBits))
	for at := api.MaxBits - 90; at < api.MaxBits+10; at++ {
		if at+80 <= api.MaxBits {
			wantRead(t, "as many ones as there may be", ones, at, 5, math.MaxUint32, at+80)
			continue
		}
		wantNotRead(t, "as many ones as there may be", ones, at, 5, api.ErrShort)
	}
}

// What stands behind the length of a slice, or in the bits that do not count, belongs to no code.
func TestP7_3LooksAtTheLengthNotTheCapacity(t *testing.T) {
	memory := []byte{255, 255, 255, 255, 255, 255, 255, 255, 255, 255, 255}
	for n := range 10 {
		wantNotRead(t, fmt.Sprint(n, " bytes of ones"), api.Bits{Bytes: memory[:n], N: 8 * n}, 0, 3, api.ErrShort)
	}
	wantRead(t, "ten bytes of ones", api.Bits{Bytes: memory[:10], N: 80}, 0, 3, math.MaxUint32, 80)
	wantNotRead(t, "a zero", api.Bits{Bytes: []byte{0, 0}[:1], N: 1}, 0, 1, api.ErrShort)
	wantNotRead(t, "eight zeros", api.Bits{Bytes: []byte{0, 0}[:1], N: 8}, 0, 8, api.ErrShort)
}

func TestP7_3RefusesInOrder(t *testing.T) {
	indexes := append([]int{0, 1, 9, api.MaxBits, math.MaxInt}, rows.BadIndexes()...)
	for what, b := range rows.Broken() {
		for _, at := range indexes {
			for _, k := range append([]int{0, 1, 24}, badParameters...) {
				wantNotRead(t, what, b, at, k, api.ErrBad)
			}
		}
	}
	for _, text := range []string{"", "0", "1", "0000000000", strings.Repeat("1", 200), strings.Repeat("1", 48) + strings.Repeat("0", 32)} {
		for _, at := range rows.BadIndexes() {
			for _, k := range append([]int{0, 1, 24}, badParameters...) {
				wantNotRead(t, text, rows.Bits(text), at, k, api.ErrArg)
			}
		}
		for _, at := range indexes {
			for _, k := range badParameters {
				wantNotRead(t, text, rows.Bits(text), at, k, api.ErrArg)
			}
		}
	}
}
