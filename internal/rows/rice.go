package rows

import (
	"math"
	"strings"

	"cadenza/api"
)

// Power is 2 to the power of n.
func Power(n int) uint64 {
	p := uint64(1)
	for range n {
		p *= 2
	}
	return p
}

// Digits are the n lowest bits of a number as a text, the lowest one in front.
func Digits(v uint64, n int) string {
	var text strings.Builder
	for range n {
		text.WriteByte('0' + byte(v%2))
		v /= 2
	}
	return text.String()
}

// Number is what a text of bits stands for, the lowest one in front.
func Number(text string) uint64 {
	n := uint64(0)
	for i, digit := range text {
		n += uint64(digit-'0') * Power(i)
	}
	return n
}

// Rice is the Rice code of a number as a text, as the chapter of layer 7 defines it.
func Rice(v uint32, k int) string {
	q := uint64(v) / Power(k)
	if q < 48 {
		return strings.Repeat("1", int(q)) + "0" + Digits(uint64(v), k)
	}
	return strings.Repeat("1", 48) + Digits(uint64(v), 32)
}

// FirstRice is what a Rice code at the beginning of a text stands for, and how long it is; its error if there is none.
func FirstRice(text string, k int) (v uint32, length int, e api.Errno) {
	q := len(text) - len(strings.TrimLeft(text, "1"))
	length = q + 1 + k
	if q >= 48 {
		q, length = 0, 80
	}
	if len(text) < length {
		return 0, 0, api.ErrShort
	}
	low := text[length-k : length]
	if length == 80 {
		low = text[48:80]
	}
	n := Number(low)
	if length == 80 && n < 48*Power(k) {
		return 0, 0, api.ErrForm
	}
	return uint32(uint64(q)*Power(k) + n), length, api.OK
}

// RiceNumbers are the least and the greatest numbers of all, and of each run with a parameter, powers of 2 with their neighbours, and some without a pattern.
func RiceNumbers(k int) []uint32 {
	l := []uint32{0, 1, 2, 3, 5, 9, 1000, 0x55555555, 0xaaaaaaaa, math.MaxUint32 - 1, math.MaxUint32}
	for q := range uint64(52) {
		first := uint32(q * Power(k))
		l = append(l, first-1, first, first+1)
	}
	for i := range 32 {
		p := uint32(Power(i))
		l = append(l, p-1, p, p+1)
	}
	return append(l, AllSizes(k, 30)...)
}

// AllSizes are n numbers of all sizes without a pattern that repeats soon; another seed gives others.
func AllSizes(seed, n int) []uint32 {
	l := make([]uint32, n)
	x := uint64(seed)*0x9e3779b97f4a7c15 + 12345
	for i := range l {
		x = x*6364136223846793005 + 1442695040888963407
		l[i] = uint32(x>>32) >> (x >> 20 % 32)
	}
	return l
}
