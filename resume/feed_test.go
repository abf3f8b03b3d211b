package resume_test

import (
	"bytes"
	"fmt"
	"math"
	"slices"
	"strings"
	"testing"

	"cadenza/api"
	"cadenza/internal/rows"
	"cadenza/resume"
)

func TestP10_2Examples(t *testing.T) {
	s := mustStart(t, 1)
	x, l, e := resume.Feed(s, []byte{10})
	wantSame(t, "the byte 10", x, l, e, waiting(1, rows.Start(), "01010000"), nil, api.OK)
	behind := api.Dual{K0: 9, K1: 10, Sum0: 15365, Sum1: 16384}
	y, l, e := resume.Feed(x, []byte{0})
	wantSame(t, "the byte 0", y, l, e, waiting(0, behind, "00000"), []uint32{5}, api.OK)
	y, l, e = resume.Feed(s, []byte{10, 0})
	wantSame(t, "both at once", y, l, e, waiting(0, behind, "00000"), []uint32{5}, api.OK)
	wantNotFed(t, s, []byte{10, 0, 0}, api.ErrMore)
	wantNotFed(t, y, []byte{0}, api.ErrMore)
	x, l, e = resume.Feed(mustStart(t, 2), bytesOf("0"+"1010000000"+"1"+"10"+"0000101110"))
	wantSame(t, "5 and 2000", x, l, e, waiting(0, api.Dual{K0: 10, K1: 10, Sum0: 16405, Sum1: 16848}, ""), []uint32{5, 2000}, api.OK)
}

func TestP10_2NoBytes(t *testing.T) {
	for _, s := range validStates() {
		for _, b := range [][]byte{nil, {}, make([]byte, 0, 2)} {
			x, l, e := resume.Feed(s, b)
			wantSame(t, "no bytes for "+name(s), x, l, e, s, nil, api.OK)
		}
	}
}

func TestP10_2OneByte(t *testing.T) {
	for _, s := range validStates() {
		for x := range 256 {
			wantFed(t, s, []byte{byte(x)})
		}
	}
}

func TestP10_2TwoBytes(t *testing.T) {
	for _, d := range []api.Dual{{K0: 1, K1: 2, Sum0: 20, Sum1: 70}, {}} {
		for _, left := range []int{1, 9, 4000} {
			for x := range 1 << 16 {
				wantFed(t, waiting(left, d, "1"), []byte{byte(x), byte(x >> 8)})
			}
		}
	}
}

func TestP10_2BytesWithoutAPattern(t *testing.T) {
	for i, d := range rows.AllKs() {
		for _, length := range []int{3, 10, 11, 23, 60, 200} {
			b := bytesOf(rows.Noise(i+length, 8*length))
			for _, left := range []int{1, 2, length, 4000} {
				wantFed(t, waiting(left, d, ""), b)
				wantFed(t, waiting(left, d, longestRest(d)), b)
			}
		}
	}
	for _, s := range validStates() {
		for seed := range 40 {
			wantFed(t, s, bytesOf(rows.Noise(seed, 24*seed)))
		}
	}
}

func TestP10_2LongRuns(t *testing.T) {
	for _, s := range validStates() {
		for n := range 40 {
			for _, x := range []byte{0, 1, 128, 255} {
				b := bytes.Repeat([]byte{x}, n)
				wantFed(t, s, b)
				wantFed(t, s, append(b, 0, 77))
			}
		}
	}
}

func TestP10_2EachNumberOfNumbers(t *testing.T) {
	for _, l := range rows.ShortLists() {
		text := rows.Code(l)
		for n := range len(l) + 1 {
			first := bytesOf(rows.Code(l[:n]))
			wantFed(t, mustStart(t, n), first)
			wantFed(t, mustStart(t, n), append(first, 0))
			wantFed(t, mustStart(t, n), bytesOf(text))
			wantFed(t, mustStart(t, n+1), first)
			wantFed(t, mustStart(t, api.MaxList), first)
		}
	}
}

// From a part of a code on, the bits that come are those behind it.
func TestP10_2BehindEachPartOfACode(t *testing.T) {
	for i, d := range someDuals() {
		for j, v := range rows.DualNumbers(d) {
			if (i+j)%5 != 0 {
				continue
			}
			text := rows.Dual(d, v) + rows.Noise(j, 90)
			for length := range rows.Dual(d, v) {
				b := bytesOf(text[length:])
				wantFed(t, waiting(1, d, text[:length]), b[:(len(text)-90-length+7)/8])
				wantFed(t, waiting(1, d, text[:length]), b)
				wantFed(t, waiting(4000, d, text[:length]), b)
			}
		}
	}
}

func TestP10_2LongLists(t *testing.T) {
	for _, l := range rows.LongLists() {
		text := rows.Code(l)
		b := bytesOf(text)
		x, list, e := resume.Feed(mustStart(t, len(l)), b)
		want := waiting(0, rows.BehindAll(l), strings.Repeat("0", 8*len(b)-len(text)))
		wantSame(t, fmt.Sprint("all of ", len(l)), x, list, e, want, l, api.OK)
		wantNotFed(t, mustStart(t, len(l)), append(b, 0), api.ErrMore)
		wantNotFed(t, mustStart(t, len(l)-90), b, api.ErrMore)
		wantFed(t, mustStart(t, len(l)), b[:len(b)/2])
		wantFed(t, mustStart(t, len(l)), b[:len(b)-1])
	}
}

func TestP10_2TheErrorOfTheFirstNumberThatHasOne(t *testing.T) {
	for _, l := range rows.ShortLists() {
		text, n := rows.Code(l), len(l)
		for _, bad := range rows.Refused(rows.BehindAll(l)) {
			for _, tail := range []string{"", "0", rows.Noise(n, 100)} {
				b := bytesOf(text + bad + tail)
				for _, left := range []int{n + 1, n + 2, n + 40, api.MaxList} {
					wantNotFed(t, mustStart(t, left), b, api.ErrForm)
				}
				// What is not waited for is not read.
				wantNotFed(t, mustStart(t, n), b, api.ErrMore)
			}
			// As long as it is not all there, it is not refused.
			b := bytesOf(text + bad)
			b = b[:(len(text)+80)/8]
			wantFed(t, mustStart(t, n+1), b)
		}
	}
}

func TestP10_2RefusedBehindEachPart(t *testing.T) {
	for _, d := range someDuals() {
		for _, bad := range rows.Refused(d) {
			for length := range bad {
				s := waiting(1, d, bad[:length])
				b := bytesOf(bad[length:])
				wantNotFed(t, s, b, api.ErrForm)
				wantNotFed(t, s, append(b, 0, 0, 0), api.ErrForm)
				wantFed(t, s, b[:len(b)-1])
			}
		}
	}
}

func TestP10_2MoreThanIsWaitedFor(t *testing.T) {
	for _, d := range someDuals() {
		for length := range 8 {
			s := waiting(0, d, rows.Noise(3, length))
			for x := range 256 {
				wantNotFed(t, s, []byte{byte(x)}, api.ErrMore)
			}
			for _, n := range []int{2, 11, 1000, 41000} {
				wantNotFed(t, s, make([]byte, n), api.ErrMore)
				wantNotFed(t, s, bytes.Repeat([]byte{255}, n), api.ErrMore)
			}
		}
	}
}

// Up to 7 bits may be left behind the last number, whatever they are.
func TestP10_2UpToSevenBitsBehindTheLastNumber(t *testing.T) {
	for _, l := range rows.ShortLists() {
		text := rows.Code(l)
		room := (8 - len(text)%8) % 8
		for x := range uint64(1) << room {
			tail := rows.Digits(x, room)
			y, list, e := resume.Feed(mustStart(t, len(l)), bytesOf(text+tail))
			wantSame(t, text+" "+tail, y, list, e, waiting(0, rows.BehindAll(l), tail), l, api.OK)
			wantNotFed(t, mustStart(t, len(l)), bytesOf(text+tail+"00000000"), api.ErrMore)
		}
	}
}

func TestP10_2TooManyBytes(t *testing.T) {
	numbers := []int{41001, 41002, 41249, 41250, 41251, 1 << 16, 1<<16 + 5, 100000}
	for _, s := range append(validStates(), mustStart(t, 0), mustStart(t, 1), mustStart(t, 4000)) {
		if s.Left == 2 || s.Left == 17 {
			continue
		}
		for _, n := range numbers {
			wantNotFed(t, s, make([]byte, n), api.ErrMany)
		}
		wantNotFed(t, s, bytes.Repeat([]byte{255}, 41001), api.ErrMany)
	}
}

// With 41,000 bytes there is always an error, as no list of numbers needs so many; but it is not that they are too many.
func TestP10_2AsManyBytesAsThereMayBe(t *testing.T) {
	most := func(text string) []byte { return append(bytesOf(text), make([]byte, 41000)...)[:41000] }
	longest := rows.Alike(math.MaxUint32, api.MaxList)
	for _, text := range []string{"", rows.Code(longest), rows.Code(rows.AllSizes(3, 4000))} {
		for _, n := range []int{0, 1, 3999, 4000} {
			wantNotFed(t, mustStart(t, n), most(text), api.ErrMore)
		}
	}
	wantNotFed(t, mustStart(t, 4000), bytes.Repeat([]byte{255}, 41000), api.ErrForm)
	// The longest Rest, and the bytes that go on with it.
	text := rows.Code(longest)
	s := waiting(api.MaxList, rows.Start(), text[:80])
	wantNotFed(t, s, most(text[80:]), api.ErrMore)
	wantNotFed(t, s, bytes.Repeat([]byte{255}, 41000), api.ErrForm)
	x, l, e := resume.Feed(s, bytesOf(text[80:]))
	wantSame(t, "the longest Rest and all bytes", x, l, e, waiting(0, rows.BehindAll(longest), ""), longest, api.OK)
	wantNotFed(t, s, append(bytesOf(text[80:]), 0), api.ErrMore)
}

func TestP10_2RefusesInOrder(t *testing.T) {
	pieces := [][]byte{nil, {0}, {255}, make([]byte, 41001), bytes.Repeat([]byte{255}, 41001), make([]byte, 300), bytes.Repeat([]byte{255}, 300)}
	for _, s := range brokenStates() {
		for _, b := range pieces {
			wantNotFed(t, s, b, api.ErrBad)
		}
	}
	bad := bytesOf(rows.Refused(rows.Start())[3])
	for _, n := range []int{0, 1, 2, 4000} {
		wantNotFed(t, mustStart(t, n), slices.Concat(bad, make([]byte, 41001-len(bad))), api.ErrMany)
	}
	wantNotFed(t, mustStart(t, 1), slices.Concat(bad, make([]byte, 41000-len(bad))), api.ErrForm)
	wantNotFed(t, mustStart(t, 0), slices.Concat(bad, make([]byte, 41000-len(bad))), api.ErrMore)
}
