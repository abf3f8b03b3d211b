package fold_test

import (
	"math"
	"testing"

	"cadenza/fold"
)

var examples = []struct {
	x int32
	n uint32
}{
	{0, 0}, {-1, 1}, {1, 2}, {-2, 3}, {2, 4}, {-3, 5}, {3, 6}, {100, 200}, {-100, 199},
	{1 << 30, 1 << 31}, {-1 << 30, 1<<31 - 1}, {1<<30 - 1, 1<<31 - 2}, {-1<<30 - 1, 1<<31 + 1},
	{math.MaxInt32, 4294967294}, {math.MinInt32, 4294967295},
	{math.MaxInt32 - 1, 4294967292}, {math.MinInt32 + 1, 4294967293},
}

func TestP5_1FoldExamples(t *testing.T) {
	for _, pair := range examples {
		if n := fold.Fold(pair.x); n != pair.n {
			t.Errorf("Fold(%d) = %d; want %d", pair.x, n, pair.n)
		}
	}
}

func TestP5_1BackExamples(t *testing.T) {
	for _, pair := range examples {
		if x := fold.Back(pair.n); x != pair.x {
			t.Errorf("Back(%d) = %d; want %d", pair.n, x, pair.x)
		}
	}
}

func TestP5_1FoldIsTheDefinition(t *testing.T) {
	for _, x := range signedNumbers() {
		if n, want := fold.Fold(x), folded(x); n != want {
			t.Fatalf("Fold(%d) = %d; want %d", x, n, want)
		}
	}
}

func TestP5_1BackIsTheDefinition(t *testing.T) {
	for _, n := range numbers() {
		if x, want := fold.Back(n), unfolded(n); x != want {
			t.Fatalf("Back(%d) = %d; want %d", n, x, want)
		}
	}
}
