package fold_test

import (
	"slices"
	"testing"

	"cadenza/api"
	"cadenza/fold"
)

func TestP5_2AllExamples(t *testing.T) {
	if l := mustAll(t, []int32{0, -1, 1, -2, 2, 2147483647, -2147483648}); !slices.Equal(l, []uint32{0, 1, 2, 3, 4, 4294967294, 4294967295}) {
		t.Error(l)
	}
	if l := mustAll(t, []int32{5, 5, -5, 0, 5}); !slices.Equal(l, []uint32{10, 10, 9, 0, 10}) {
		t.Error(l)
	}
}

func TestP5_2UndoExamples(t *testing.T) {
	if l := mustUndo(t, []uint32{0, 1, 2, 3, 4, 4294967294, 4294967295}); !slices.Equal(l, []int32{0, -1, 1, -2, 2, 2147483647, -2147483648}) {
		t.Error(l)
	}
	if l := mustUndo(t, []uint32{10, 10, 9, 0, 10}); !slices.Equal(l, []int32{5, 5, -5, 0, 5}) {
		t.Error(l)
	}
}

func TestP5_2NoNumbers(t *testing.T) {
	room, signedRoom := noise(2, 5), signedNoise(2, 5)
	for _, l := range [][]int32{nil, {}, signedRoom[:0], signedRoom[5:]} {
		mustAll(t, l)
	}
	for _, l := range [][]uint32{nil, {}, room[:0], room[5:]} {
		mustUndo(t, l)
	}
}

func TestP5_2EachNumberInOrder(t *testing.T) {
	for _, n := range []int{1, 2, 3, 10, 255, 256, 257, api.MaxList - 1, api.MaxList} {
		signed := signedNoise(n, n)
		for i, got := range mustAll(t, signed) {
			if want := folded(signed[i]); got != want {
				t.Fatalf("All of %d numbers: number %d is %d; want %d", n, i, got, want)
			}
		}
		l := noise(n+1, n)
		for i, got := range mustUndo(t, l) {
			if want := unfolded(l[i]); got != want {
				t.Fatalf("Undo of %d numbers: number %d is %d; want %d", n, i, got, want)
			}
		}
	}
}

func TestP5_2TooManyNumbers(t *testing.T) {
	for _, n := range []int{api.MaxList + 1, api.MaxList + 2, 2 * api.MaxList, 1 << 16, 1<<16 + 1} {
		if l, e := fold.All(signedNoise(3, n)); len(l) != 0 || e != api.ErrMany {
			t.Errorf("All of %d numbers: %d numbers, %d", n, len(l), e)
		}
		if l, e := fold.Undo(noise(3, n)); len(l) != 0 || e != api.ErrMany {
			t.Errorf("Undo of %d numbers: %d numbers, %d", n, len(l), e)
		}
	}
}
