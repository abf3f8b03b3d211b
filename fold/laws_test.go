package fold_test

import (
	"math"
	"slices"
	"testing"

	"cadenza/api"
	"cadenza/fold"
)

// An odd stride that is no power of 2 meets numbers all over, with other low and high bits each time.
const stride = 997

func TestP5_3BackAndAgain(t *testing.T) {
	l := numbers()
	for i := uint64(0); i <= math.MaxUint32; i += stride {
		l = append(l, uint32(i))
	}
	for _, n := range l {
		if again := fold.Fold(fold.Back(n)); again != n {
			t.Fatalf("%d is unfolded, and folded again, %d", n, again)
		}
		x := int32(n)
		if again := fold.Back(fold.Fold(x)); again != x {
			t.Fatalf("%d is folded, and unfolded again, %d", x, again)
		}
	}
}

func TestP5_3ListsBackAndAgain(t *testing.T) {
	for n := range 60 {
		l, signed := noise(n, n), signedNoise(n+100, n)
		if again := mustAll(t, mustUndo(t, l)); !slices.Equal(again, l) {
			t.Fatalf("%v: %v", l, again)
		}
		if again := mustUndo(t, mustAll(t, signed)); !slices.Equal(again, signed) {
			t.Fatalf("%v: %v", signed, again)
		}
	}
	for l := range slices.Chunk(numbers(), api.MaxList) {
		if !slices.Equal(mustAll(t, mustUndo(t, l)), l) {
			t.Fatalf("%d numbers", len(l))
		}
	}
}

func TestP5_3OtherNumbersAreFoldedToOthers(t *testing.T) {
	signed := signedNumbers()
	slices.Sort(signed)
	signed = slices.Compact(signed)
	seen := map[uint32]int32{}
	for _, x := range signed {
		n := fold.Fold(x)
		if other, ok := seen[n]; ok {
			t.Fatalf("%d and %d: both %d", x, other, n)
		}
		seen[n] = x
	}
}

func TestP5_3LessSizeIsLess(t *testing.T) {
	signed := signedNoise(4, 2000)
	signed = append(signed, math.MinInt32, math.MinInt32+1, math.MaxInt32, math.MaxInt32-1, -2, -1, 0, 1, 2, 1<<30, -1<<30)
	for _, x := range signed {
		for _, y := range signed {
			if size(x) < size(y) && fold.Fold(x) >= fold.Fold(y) {
				t.Fatalf("%d: %d, but %d: %d", x, fold.Fold(x), y, fold.Fold(y))
			}
		}
	}
}

func TestP5_3OfTheSameSizeTheNegativeOneIsLess(t *testing.T) {
	for _, x := range signedNumbers() {
		if x <= 0 {
			continue
		}
		if negative := fold.Fold(-x); negative >= fold.Fold(x) {
			t.Fatalf("%d: %d, but %d: %d", -x, negative, x, fold.Fold(x))
		}
	}
}

func TestP5_3NumbersOfABitWidth(t *testing.T) {
	for k := 1; k <= 32; k++ {
		low, high := -int64(1)<<(k-1), int64(1)<<(k-1)-1
		near := signedNumbers()
		for d := int64(-3); d <= 3; d++ {
			near = append(near, int32(max(low+d, math.MinInt32)), int32(min(high+d, math.MaxInt32)))
		}
		for _, x := range near {
			inside := int64(x) >= low && int64(x) <= high
			if less := uint64(fold.Fold(x)) < uint64(1)<<k; less != inside {
				t.Fatalf("%d bits: %d is folded to %d", k, x, fold.Fold(x))
			}
		}
	}
}

// Of few bits each number is met, so that none is left out.
func TestP5_3AllNumbersOfFewBits(t *testing.T) {
	const k = 17
	met := make([]bool, 1<<k)
	for x := int32(-1 << (k - 1)); x < 1<<(k-1); x++ {
		n := fold.Fold(x)
		if n >= 1<<k || met[n] {
			t.Fatalf("%d is folded to %d", x, n)
		}
		met[n] = true
	}
	for n := range uint32(1 << k) {
		if x := fold.Back(n); x < -1<<(k-1) || x >= 1<<(k-1) {
			t.Fatalf("%d is unfolded to %d", n, x)
		}
	}
}

func TestP1ArgumentsAreOnlyRead(t *testing.T) {
	whole, signed := noise(5, 40), signedNoise(6, 40)
	before, signedBefore := slices.Clone(whole), slices.Clone(signed)
	for n := range len(whole) + 1 {
		fold.Undo(whole[:n])
		fold.All(signed[:n])
		if !slices.Equal(whole, before) || !slices.Equal(signed, signedBefore) {
			t.Fatalf("with %d numbers: %v, %v", n, whole, signed)
		}
	}
	many, signedMany := noise(7, api.MaxList+1), signedNoise(8, api.MaxList+1)
	before, signedBefore = slices.Clone(many), slices.Clone(signedMany)
	fold.Undo(many)
	fold.All(signedMany)
	if !slices.Equal(many, before) || !slices.Equal(signedMany, signedBefore) {
		t.Error("too many numbers changed")
	}
}

func TestP1ResultsShareNoMemory(t *testing.T) {
	shareNone(t, "All", fold.All, signedNoise(9, 6))
	shareNone(t, "Undo", fold.Undo, noise(10, 6))
}

func shareNone[A, B comparable](t *testing.T, what string, call func([]A) ([]B, api.Errno), numbers []A) {
	t.Helper()
	l := append(make([]A, 0, 20), numbers...)
	want := slices.Clone(must(t, what, call, l))
	one, other := must(t, what, call, l), must(t, what, call, l)
	clear(one)
	_ = append(one, one...)
	if !slices.Equal(other, want) || !slices.Equal(l, numbers) {
		t.Errorf("%s: a list changed with another one", what)
	}
	clear(l)
	if !slices.Equal(other, want) {
		t.Errorf("%s: a result changed with its argument", what)
	}
}

func TestP1OnlyTheLengthCounts(t *testing.T) {
	whole, signed := noise(11, 30), signedNoise(12, 30)
	for n := range len(whole) {
		alone, signedAlone := slices.Clip(slices.Clone(whole[:n])), slices.Clip(slices.Clone(signed[:n]))
		if !slices.Equal(mustUndo(t, whole[:n]), mustUndo(t, alone)) || !slices.Equal(mustAll(t, signed[:n]), mustAll(t, signedAlone)) {
			t.Fatalf("%d numbers with others behind", n)
		}
	}
	room, signedRoom := make([]uint32, api.MaxList, 2*api.MaxList), make([]int32, api.MaxList, 2*api.MaxList)
	mustUndo(t, room)
	mustAll(t, signedRoom)
}

func TestP1NothingIsKeptFromCallToCall(t *testing.T) {
	for range 3 {
		fold.All(make([]int32, api.MaxList+1))
		fold.Undo(make([]uint32, api.MaxList+1))
		clear(mustAll(t, signedNoise(13, 50)))
		clear(mustUndo(t, noise(14, 50)))
		if fold.Fold(-2) != 3 || fold.Back(3) != -2 {
			t.Error("Fold or Back")
		}
		if l := mustAll(t, []int32{3, -3}); !slices.Equal(l, []uint32{6, 5}) {
			t.Error("All", l)
		}
		if l := mustUndo(t, []uint32{6, 5}); !slices.Equal(l, []int32{3, -3}) {
			t.Error("Undo", l)
		}
	}
}
