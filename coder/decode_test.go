package coder_test

import (
	"fmt"
	"math"
	"strings"
	"testing"

	"cadenza/api"
	"cadenza/internal/rows"
)

func TestP9_2Examples(t *testing.T) {
	text := "0" + "1010000000" + "1" + "10" + "0000101110"
	wantDecoded(t, text, rows.Bits(text), nil, 0)
	wantDecoded(t, text, rows.Bits(text), []uint32{5}, 11)
	wantDecoded(t, text, rows.Bits(text), []uint32{5, 2000}, 24)
	wantNotDecoded(t, text, rows.Bits(text), 3, api.ErrShort)
	wantNotDecoded(t, text, rows.Bits(text[:23]), 2, api.ErrShort)
	wantDecoded(t, text, rows.Bits(text+"0"+"0000000000"), []uint32{5, 2000, 0}, 35)
}

func TestP9_2AllOfShortLists(t *testing.T) {
	for _, l := range rows.ShortLists() {
		wantDecoded(t, name(l), rows.Bits(rows.Code(l)), l, len(rows.Code(l)))
	}
}

func TestP9_2FewerNumbersThanThereAre(t *testing.T) {
	for _, l := range rows.ShortLists() {
		text := rows.Code(l)
		for n := range len(l) + 1 {
			wantDecoded(t, name(l), rows.Bits(text), l[:n], len(rows.Code(l[:n])))
		}
	}
}

func TestP9_2LongLists(t *testing.T) {
	for _, l := range rows.LongLists() {
		text := rows.Code(l)
		b := rows.Bits(text)
		for _, n := range []int{0, 1, len(l) / 2, len(l) - 1, len(l)} {
			wantDecoded(t, name(l), b, l[:n], len(rows.Code(l[:n])))
		}
		wantNotDecoded(t, name(l), rows.Bits(text[:len(text)-1]), len(l), api.ErrShort)
		if len(l) < api.MaxList {
			wantNotDecoded(t, name(l), b, len(l)+1, api.ErrShort)
		}
	}
}

func TestP9_2AllShortBits(t *testing.T) {
	for length := range 15 {
		for x := range uint64(1) << length {
			text := rows.Digits(x, length)
			for n := range 3 {
				wantAsDefined(t, text, rows.Bits(text), n)
			}
		}
	}
}

func TestP9_2BitsWithoutAPattern(t *testing.T) {
	for seed := range 60 {
		text := rows.Noise(seed, 40*seed)
		for n := range 3 * seed {
			wantAsDefined(t, text, rows.Bits(text), n)
		}
	}
}

func TestP9_2BitsThatEndBeforeTheCodeDoes(t *testing.T) {
	for _, l := range rows.ShortLists() {
		if len(l) > 12 {
			continue
		}
		text := rows.Code(l)
		for length := range text {
			wantNotDecoded(t, text[:length], rows.Bits(text[:length]), len(l), api.ErrShort)
		}
		wantNotDecoded(t, text, rows.Bits(text), len(l)+1, api.ErrShort)
		wantNotDecoded(t, text, rows.Bits(text), api.MaxList, api.ErrShort)
	}
}

func TestP9_2TheErrorOfTheFirstNumberThatHasOne(t *testing.T) {
	for _, l := range rows.ShortLists() {
		text := rows.Code(l)
		for _, bad := range rows.Refused(rows.BehindAll(l)) {
			for _, tail := range []string{"", "0", rows.Noise(len(l), 100)} {
				b := rows.Bits(text + bad + tail)
				wantDecoded(t, name(l), b, l, len(text))
				for _, n := range []int{len(l) + 1, len(l) + 2, len(l) + 40, api.MaxList} {
					wantNotDecoded(t, name(l), b, n, api.ErrForm)
				}
			}
			wantNotDecoded(t, name(l), rows.Bits(text+bad[:80]), len(l)+1, api.ErrShort)
		}
	}
}

func TestP9_2NoNumbers(t *testing.T) {
	for _, text := range []string{"", "0", "1", strings.Repeat("1", 100), rows.Noise(1, 65)} {
		wantDecoded(t, text, rows.Bits(text), nil, 0)
	}
	wantDecoded(t, "full bits", rows.Full(0), nil, 0)
	for _, b := range []api.Bits{{}, {Bytes: []byte{}}, {Bytes: []byte{0, 0}[:0]}} {
		wantDecoded(t, "nothing", b, nil, 0)
		wantNotDecoded(t, "nothing", b, 1, api.ErrShort)
		wantNotDecoded(t, "nothing", b, api.MaxList, api.ErrShort)
	}
}

func TestP9_2FullBits(t *testing.T) {
	text := rows.Noise(7, api.MaxBits)
	for _, n := range []int{1, 2, 100, 1000, 3999, api.MaxList} {
		wantAsDefined(t, text, rows.Full(0), n)
		wantAsDefined(t, text[:api.MaxBits-1], rows.Full(1), n)
	}
	zeros := api.Bits{Bytes: make([]byte, api.MaxBits/8), N: api.MaxBits}
	wantDecoded(t, "zeros", zeros, rows.Alike(0, api.MaxList), len(rows.Code(rows.Alike(0, api.MaxList))))
}

func TestP9_2RefusesInOrder(t *testing.T) {
	less := append(rows.BadIndexes(), -api.MaxList)
	more := append([]int{math.MaxInt, math.MaxInt - 1, 1 << 32, 1<<32 + 1, 1 << 31}, rows.TooMany()...)
	for what, b := range rows.Broken() {
		for _, n := range append([]int{0, 1, 2, api.MaxList}, append(less, more...)...) {
			wantNotDecoded(t, what, b, n, api.ErrBad)
		}
	}
	for _, text := range []string{"", "0", "01010000000", strings.Repeat("0", 40000), strings.Repeat("1", 81), rows.Noise(3, 500)} {
		for _, n := range less {
			wantNotDecoded(t, fmt.Sprint(len(text), " bits"), rows.Bits(text), n, api.ErrArg)
		}
		for _, n := range more {
			wantNotDecoded(t, fmt.Sprint(len(text), " bits"), rows.Bits(text), n, api.ErrMany)
		}
	}
	for _, n := range more {
		wantNotDecoded(t, "full bits", rows.Full(0), n, api.ErrMany)
	}
}
