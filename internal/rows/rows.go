// Package rows gives the tests of several layers bits, Rice codes, codes with two levels and those of lists: from texts of zeros and ones, and not from packages bits, rice, dual and coder, so that no test relies on what it checks; and bursts that change bytes.
package rows

import (
	"bytes"
	"strings"

	"cadenza/api"
)

const byteBits = 8

// Bits are those of a text of zeros and ones, the first one in front.
func Bits(text string) api.Bits {
	b := api.Bits{N: len(text)}
	place := byte(1)
	for i := range len(text) {
		if i%byteBits == 0 {
			b.Bytes = append(b.Bytes, 0)
			place = 1
		}
		if text[i] == '1' {
			b.Bytes[i/byteBits] += place
		}
		place *= 2
	}
	return b
}

// Text is the text of zeros and ones that valid bits have.
func Text(b api.Bits) string {
	var text strings.Builder
	for i := range b.N {
		text.WriteByte('0' + b.Bytes[i/byteBits]>>(i%byteBits)&1)
	}
	return text.String()
}

// Noise is a text of n bits without a pattern that repeats soon; another seed gives another one.
func Noise(seed, n int) string {
	var text strings.Builder
	x := uint32(seed)*2654435761 + 12345
	for range n {
		x ^= x << 13
		x ^= x >> 17
		x ^= x << 5
		text.WriteByte('0' + byte(x>>9&1))
	}
	return text.String()
}

// Texts are short ones: the empty one, all zeros, all ones, and noise, of each length up to most.
func Texts(most int) []string {
	l := []string{""}
	for n := 1; n <= most; n++ {
		l = append(l, strings.Repeat("0", n), strings.Repeat("1", n), Noise(n, n), Noise(n+99, n))
	}
	return l
}

// Heads are texts to stand in front of what is looked at: with each number of bits in their last byte, and ones and zeros at their ends.
func Heads() []string {
	return append(Texts(17), Noise(1, 63), Noise(2, 64), Noise(3, 65), Noise(4, 130))
}

// Full are as many bits as there may be, less some.
func Full(less int) api.Bits { return Bits(Noise(7, api.MaxBits-less)) }

// Same tells whether bits are the same.
func Same(a, b api.Bits) bool { return a.N == b.N && bytes.Equal(a.Bytes, b.Bytes) }
