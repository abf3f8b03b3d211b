package bits_test

import (
	"fmt"
	"math"
	"slices"
	"strings"
	"testing"

	"cadenza/api"
	"cadenza/bits"
	"cadenza/internal/rows"
)

func TestP2_1CheckOfValidBits(t *testing.T) {
	for _, text := range rows.Texts(40) {
		if e := bits.Check(rows.Bits(text)); e != api.OK {
			t.Errorf("Check(%q): %d", text, e)
		}
	}
	for _, b := range []api.Bits{{}, {Bytes: []byte{}}, {Bytes: []byte{9, 9}[:0]}, {Bytes: []byte{1, 255}[:1], N: 1}} {
		if e := bits.Check(b); e != api.OK {
			t.Errorf("Check(%v): %d", b, e)
		}
	}
	for less := range 20 {
		if e := bits.Check(rows.Full(less)); e != api.OK {
			t.Errorf("Check of MaxBits less %d: %d", less, e)
		}
	}
}

func TestP2_1CheckOfOthers(t *testing.T) {
	for what, b := range rows.Broken() {
		if e := bits.Check(b); e != api.ErrBad {
			t.Errorf("Check of %s: %d", what, e)
		}
	}
}

// Each bit of the last byte is tried, with each N: it may be 1 only if it is one of those that count.
func TestP2_1CheckOfEachBitOfTheLastByte(t *testing.T) {
	for n := 1; n <= 24; n++ {
		for i := range 8 {
			b := api.Bits{Bytes: make([]byte, (n+7)/8), N: n}
			b.Bytes[len(b.Bytes)-1] = 1 << i
			want := api.OK
			if 8*(len(b.Bytes)-1)+i >= n {
				want = api.ErrBad
			}
			if e := bits.Check(b); e != want {
				t.Errorf("Check(%v): %d; want %d", b, e, want)
			}
		}
	}
}

func TestP2_1Example(t *testing.T) {
	b := mustPut(t, api.Bits{}, 5, 3)
	b, e := bits.Put(b, 6, 4)
	if e != api.OK || b.N != 7 || !slices.Equal(b.Bytes, []byte{53}) {
		t.Error(b, e)
	}
	v, e := bits.Get(b, 2, 4)
	wantNumber(t, "Get", v, e, 13, api.OK)
}

func TestP2_1PutOfEachLengthBehindEachOther(t *testing.T) {
	for _, text := range rows.Texts(18) {
		for n := range 65 {
			for _, v := range []uint64{0, 1, 0x0123456789abcdef, 0xfedcba9876543210, math.MaxUint64} {
				v = number(digits(v, n))
				b, e := bits.Put(rows.Bits(text), v, n)
				wantBits(t, fmt.Sprint("Put ", text, " ", v, " ", n), b, e, text+digits(v, n))
			}
		}
	}
}

func TestP2_1PutBehindNothing(t *testing.T) {
	for _, b := range []api.Bits{{}, {Bytes: []byte{}}, {Bytes: []byte{255, 255}[:0]}} {
		c, e := bits.Put(b, 0, 0)
		wantBits(t, "Put of nothing", c, e, "")
		c, e = bits.Put(b, 6, 3)
		wantBits(t, "Put of 6", c, e, "011")
	}
}

func TestP2_1PutRefusesNumbersThatAreTooGreat(t *testing.T) {
	for _, text := range []string{"", "1", "10110", "11111111", rows.Noise(3, 63)} {
		for n := range 64 {
			least := number(digits(0, n) + "1")
			for _, v := range []uint64{least, least + 1, 2*least - 1, 1 << 63, math.MaxUint64} {
				b, e := bits.Put(rows.Bits(text), v, n)
				wantNoBits(t, fmt.Sprint("Put ", text, " ", v, " ", n), b, e, api.ErrRange)
			}
			b, e := bits.Put(rows.Bits(text), least-1, n)
			wantBits(t, fmt.Sprint("Put ", text, " ", least-1, " ", n), b, e, text+strings.Repeat("1", n))
		}
	}
}

func TestP2_1PutUpToTheLimit(t *testing.T) {
	for _, n := range []int{0, 1, 2, 7, 8, 9, 63, 64} {
		for _, room := range []int{n, n + 1, n + 8} {
			b, e := bits.Put(rows.Full(room), 0, n)
			if e != api.OK || b.N != api.MaxBits-room+n || len(b.Bytes) != (b.N+7)/8 {
				t.Errorf("Put of %d bits with room for %d: %d, %d", n, room, b.N, e)
			}
		}
		for _, room := range []int{n - 1, n - 2, n - 8, 0} {
			if room >= 0 && room < n {
				b, e := bits.Put(rows.Full(room), 0, n)
				wantNoBits(t, fmt.Sprint("Put of ", n, " with room for ", room), b, e, api.ErrFull)
			}
		}
	}
}

func TestP2_1PutRefusesInOrder(t *testing.T) {
	for what, b := range rows.Broken() {
		for _, n := range []int{-1, 0, 1, 64, 65, math.MaxInt} {
			c, e := bits.Put(b, math.MaxUint64, n)
			wantNoBits(t, "Put behind "+what, c, e, api.ErrBad)
		}
	}
	last := rows.Full(0)
	for _, n := range badCounts {
		for _, b := range []api.Bits{{}, rows.Bits("101"), last} {
			for _, v := range []uint64{0, 1, math.MaxUint64} {
				c, e := bits.Put(b, v, n)
				wantNoBits(t, fmt.Sprint("Put of ", v, " ", n), c, e, api.ErrArg)
			}
		}
	}
	for n := range 64 {
		c, e := bits.Put(last, math.MaxUint64, n)
		wantNoBits(t, fmt.Sprint("Put of too great a number without room ", n), c, e, api.ErrRange)
	}
	c, e := bits.Put(last, math.MaxUint64, 64)
	wantNoBits(t, "Put without room", c, e, api.ErrFull)
}

func TestP2_1GetOfEachPart(t *testing.T) {
	for _, text := range []string{"", "1", "0", "1011", "11111111", rows.Noise(1, 30), rows.Noise(2, 80), rows.Noise(4, 90), strings.Repeat("1", 85)} {
		for at := range len(text) + 1 {
			for n := range 65 {
				v, e := bits.Get(rows.Bits(text), at, n)
				what := fmt.Sprint("Get ", text, " ", at, " ", n)
				if at+n > len(text) {
					wantNumber(t, what, v, e, 0, api.ErrShort)
					continue
				}
				wantNumber(t, what, v, e, number(text[at:at+n]), api.OK)
			}
		}
	}
}

func TestP2_1GetAtTheEndAndBeyond(t *testing.T) {
	for _, b := range []api.Bits{{}, rows.Bits("1"), rows.Bits(rows.Noise(5, 8)), rows.Bits(rows.Noise(6, 70)), rows.Full(0)} {
		v, e := bits.Get(b, b.N, 0)
		wantNumber(t, fmt.Sprint("Get of no bits at the end of ", b.N), v, e, 0, api.OK)
		for n := 1; n <= 64; n++ {
			for _, at := range []int{b.N, b.N + 1, b.N + 8, b.N + 64, math.MaxInt - 64, math.MaxInt - n, math.MaxInt - n + 1, math.MaxInt} {
				v, e := bits.Get(b, at, n)
				wantNumber(t, fmt.Sprint("Get of ", b.N, " ", at, " ", n), v, e, 0, api.ErrShort)
			}
			if b.N < n {
				continue
			}
			if _, e := bits.Get(b, b.N-n, n); e != api.OK {
				t.Errorf("Get of the last %d of %d: %d", n, b.N, e)
			}
			v, e := bits.Get(b, b.N-n+1, n)
			wantNumber(t, fmt.Sprint("Get of one too many of ", b.N, " ", n), v, e, 0, api.ErrShort)
		}
	}
}

// The chapter's most direct reading: no bits are there from an index beyond the end on, as there is no such place.
func TestP2_1GetOfNoBitsBeyondTheEnd(t *testing.T) {
	for _, b := range []api.Bits{{}, rows.Bits("1"), rows.Bits(rows.Noise(5, 8))} {
		for _, at := range []int{b.N + 1, b.N + 9, math.MaxInt} {
			v, e := bits.Get(b, at, 0)
			wantNumber(t, fmt.Sprint("Get of no bits of ", b.N, " at ", at), v, e, 0, api.ErrShort)
		}
	}
}

func TestP2_1GetLooksAtTheLengthNotTheCapacity(t *testing.T) {
	b := api.Bits{Bytes: []byte{1, 255, 255, 255}[:1], N: 5}
	v, e := bits.Get(b, 0, 5)
	wantNumber(t, "Get of all", v, e, 1, api.OK)
	v, e = bits.Get(b, 3, 3)
	wantNumber(t, "Get beyond", v, e, 0, api.ErrShort)
}

func TestP2_1GetRefusesInOrder(t *testing.T) {
	for what, b := range rows.Broken() {
		for _, at := range []int{-1, 0, 1, math.MaxInt} {
			for _, n := range []int{-1, 0, 1, 64, 65} {
				v, e := bits.Get(b, at, n)
				wantNumber(t, "Get of "+what, v, e, 0, api.ErrBad)
			}
		}
	}
	long := rows.Bits(rows.Noise(9, 400))
	for _, b := range []api.Bits{{}, rows.Bits("1"), long} {
		for _, n := range badCounts {
			for _, at := range []int{math.MinInt, -1, 0, 1, 400, math.MaxInt} {
				v, e := bits.Get(b, at, n)
				wantNumber(t, fmt.Sprint("Get ", at, " ", n), v, e, 0, api.ErrArg)
			}
		}
		for _, at := range []int{math.MinInt, math.MinInt + 1, math.MinInt + 64, -1 << 32, -400, -64, -8, -1} {
			for n := range 65 {
				v, e := bits.Get(b, at, n)
				wantNumber(t, fmt.Sprint("Get ", at, " ", n), v, e, 0, api.ErrArg)
			}
		}
	}
}
