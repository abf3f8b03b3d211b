package rows

// Both has the bits that are changed in one of two strings of the same length alone.
func Both(a, b []byte) []byte {
	c := make([]byte, len(a))
	for i := range c {
		c[i] = a[i] ^ b[i]
	}
	return c
}

// Burst is n bytes with the bits of a pattern from an index on, the lowest bit of a byte first; all others are 0.
func Burst(n, at int, pattern uint64) []byte {
	b := make([]byte, n)
	for ; pattern > 0; pattern /= 2 {
		if pattern%2 == 1 {
			b[at/byteBits] |= 1 << (at % byteBits)
		}
		at++
	}
	return b
}

// Patterns are bursts of at most 32 bits, all of which begin with a one; many of them end with one too.
func Patterns() []uint64 {
	l := []uint64{1, 3, 0x80000001, 0xffffffff, Divisor - 1<<32, 0xaaaaaaab, 0x55555555}
	for i := range 400 {
		l = append(l, Number(Noise(i+6, 32))|1)
	}
	return l
}

// Divisor is the one pattern of 33 bits that no CRC-32 sees: the polynomial's, and a one in front.
const Divisor = 2*0xedb88320 + 1
