package rows

import (
	"math"
	"slices"
	"strings"

	"cadenza/api"
)

// Code is the code of numbers as a text, as the chapter of layer 9 defines it.
func Code(l []uint32) string {
	var text strings.Builder
	d := Start()
	for _, v := range l {
		text.WriteString(Dual(d, v))
		d = Behind(d, v)
	}
	return text.String()
}

// BehindAll is the state behind numbers, as the chapter of layer 9 defines it.
func BehindAll(l []uint32) api.Dual {
	d := Start()
	for _, v := range l {
		d = Behind(d, v)
	}
	return d
}

// ShortLists are lists of all kinds, most of them with all numbers of numbers up to 40.
func ShortLists() [][]uint32 {
	l := [][]uint32{nil, {}, {1000, 2000, 3000, 0, 0}, {1023, 1024, 511, 512, 255, 256}}
	for _, v := range DualNumbers(Start()) {
		l = append(l, []uint32{v})
	}
	for n := range 41 {
		l = append(l, Alike(0, n), Alike(math.MaxUint32, n), AllSizes(n, n), Picked(n, n), Waves(n, n, 5))
	}
	return append(l, AllSizes(1, 64), Picked(2, 65), Picked(3, 130), Waves(4, 257, 40))
}

// LongLists are lists with as many numbers as there may be, or almost as many.
func LongLists() [][]uint32 {
	return [][]uint32{
		Alike(0, 4000), Alike(1, 3999), Alike(math.MaxUint32, 4000), AllSizes(5, 4000), AllSizes(6, 3989), Waves(7, 4000, 300),
		slices.Concat(Alike(math.MaxUint32, 700), Alike(0, 700), Alike(100000, 700)),
		slices.Concat(Alike(0, 2000), Alike(math.MaxUint32, 2000)),
	}
}

// TooMany are numbers of numbers that no list may have; some would be allowed if they were cut to fewer bits.
func TooMany() []int {
	return []int{api.MaxList + 1, api.MaxList + 2, 4096, 8000, 1 << 16, 1<<16 + 5, api.MaxBits}
}

// Alike are n times the same number.
func Alike(v uint32, n int) []uint32 { return slices.Repeat([]uint32{v}, n) }

// Picked are n numbers, each of which is near a limit in the state behind those before it.
func Picked(seed, n int) []uint32 {
	var l []uint32
	d, at := Start(), seed
	for _, x := range AllSizes(seed, n) {
		near := DualNumbers(d)
		at = (at + int(x)) % len(near)
		l = append(l, near[at])
		d = Behind(d, near[at])
	}
	return l
}

// Waves are n numbers: some small ones, and then some greater ones, again and again, so that the state learns much.
func Waves(seed, n, length int) []uint32 {
	l := AllSizes(seed, n)
	for i := range l {
		l[i] >>= (i / length * 7) % 32
	}
	return l
}

// Refused are codes that dual.Read refuses in a state: some that a shorter one stands for, and some of numbers that are too great.
func Refused(d api.Dual) []string {
	ones := "1" + strings.Repeat("1", 48)
	return []string{
		ones + Digits(0, 32),
		ones + Digits(48*Power(d.K1)-1, 32),
		ones + Digits(Power(32)-Power(d.K0), 32),
		ones + Digits(math.MaxUint32, 32),
	}
}
