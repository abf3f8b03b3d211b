package rows

import (
	"math"

	"cadenza/api"
)

// MaxSum is the greatest Sum of a valid state.
const MaxSum = 68719476735

// Start is the first state of the code with two levels.
func Start() api.Dual { return api.Dual{K0: 10, K1: 10, Sum0: 16384, Sum1: 16384} }

// Dual is the code of a number in a state as a text, as the chapter of layer 8 defines it.
func Dual(d api.Dual, v uint32) string {
	least := Power(d.K0)
	if uint64(v) < least {
		return "0" + Digits(uint64(v), d.K0)
	}
	return "1" + Rice(uint32(uint64(v)-least), d.K1)
}

// FirstDual is what a code at the beginning of a text stands for in a state, and how long it is; its error if there is none.
func FirstDual(text string, d api.Dual) (v uint32, length int, e api.Errno) {
	if text == "" || text[0] == '0' && len(text) < 1+d.K0 {
		return 0, 0, api.ErrShort
	}
	if text[0] == '0' {
		return uint32(Number(text[1 : 1+d.K0])), 1 + d.K0, api.OK
	}
	left, length, e := FirstRice(text[1:], d.K1)
	if e != api.OK {
		return 0, 0, e
	}
	n := uint64(left) + Power(d.K0)
	if n > math.MaxUint32 {
		return 0, 0, api.ErrForm
	}
	return uint32(n), 1 + length, api.OK
}

// Behind is the state behind a number, as the chapter of layer 8 defines it.
func Behind(d api.Dual, v uint32) api.Dual {
	x := d
	if least := Power(d.K0); uint64(v) >= least {
		x.K1, x.Sum1 = learnt(d.K1, d.Sum1, uint32(uint64(v)-least))
	}
	x.K0, x.Sum0 = learnt(d.K0, d.Sum0, v)
	return x
}

// learnt is a pair that has learnt a number.
func learnt(k int, sum uint64, v uint32) (int, uint64) {
	now := int64(sum) - int64(sum)/16 + int64(v)
	if now < int64(16*Power(k)) {
		return max(k-1, 0), uint64(now)
	}
	if now > int64(32*Power(k)) {
		return min(k+1, 24), uint64(now)
	}
	return k, uint64(now)
}

// DualNumbers are the least and the greatest ones of all, of each kind of code in a state, and some without a pattern.
func DualNumbers(d api.Dual) []uint32 {
	least := uint32(Power(d.K0))
	l := []uint32{0, 1, 2, 5, least / 2, least - 2, least - 1, math.MaxUint32 - least, math.MaxUint32 - least + 1, math.MaxUint32 - 1, math.MaxUint32}
	for _, left := range RiceNumbers(d.K1) {
		// A sum that is too great is some other number.
		l = append(l, least+left)
	}
	return append(l, AllSizes(d.K0, 20)...)
}

// AllKs are valid states with all pairs of K.
func AllKs() []api.Dual {
	var l []api.Dual
	for k0 := range 25 {
		for k1 := range 25 {
			l = append(l, api.Dual{K0: k0, K1: k1, Sum0: 20 * Power(k0), Sum1: 20 * Power(k1)})
		}
	}
	return l
}
