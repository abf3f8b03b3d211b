package resume_test

import (
	"bytes"
	"fmt"
	"math"
	"slices"
	"strings"
	"testing"

	"cadenza/api"
	"cadenza/bits"
	"cadenza/coder"
	"cadenza/internal/rows"
	"cadenza/resume"
)

func TestP10_3PiecesOfAllSizes(t *testing.T) {
	for i, l := range rows.ShortLists() {
		b := bytesOf(rows.Code(l) + "000" + rows.Noise(i, i%5))
		for _, n := range []int{0, len(l) / 2, len(l), len(l) + 1, api.MaxList} {
			for _, size := range []int{1, 2, 3, 7, 10, 11, 50} {
				wantSameInPieces(t, mustStart(t, n), cut(b, size))
			}
			wantSameInPieces(t, mustStart(t, n), cutUnevenly(b, i, 9))
		}
	}
}

func TestP10_3PiecesOfLongLists(t *testing.T) {
	for i, l := range rows.LongLists() {
		b := bytesOf(rows.Code(l))
		s := mustStart(t, len(l))
		for _, pieces := range [][][]byte{cut(b, 1), cut(b, 10), cut(b, 999), cut(b, len(b)-1), cutUnevenly(b, i, 300)} {
			x, list, e := inPieces(s, pieces)
			want := waiting(0, rows.BehindAll(l), strings.Repeat("0", 8*len(b)-len(rows.Code(l))))
			wantSame(t, fmt.Sprint(len(l), " numbers in ", len(pieces), " pieces"), x, list, e, want, l, api.OK)
		}
		wantSameInPieces(t, s, [][]byte{b, {0}})
		wantSameInPieces(t, s, [][]byte{b, nil})
	}
}

func TestP10_3AllCutsInTwo(t *testing.T) {
	for i, s := range validStates() {
		for seed := range 3 {
			b := bytesOf(rows.Noise(i+seed, 8*seed*9))
			for at := range len(b) + 1 {
				wantSameInPieces(t, s, [][]byte{b[:at], b[at:]})
			}
			wantSameInPieces(t, s, cut(b, 1))
		}
	}
}

// The error of the first piece that has one is that of all bytes.
func TestP10_3PiecesWithErrors(t *testing.T) {
	for i, l := range rows.ShortLists() {
		for _, bad := range rows.Refused(rows.BehindAll(l)) {
			b := bytesOf(rows.Code(l) + bad + rows.Noise(i, 30))
			for _, n := range []int{len(l), len(l) + 1, api.MaxList} {
				s := mustStart(t, n)
				if _, _, e := resume.Feed(s, b); e == api.OK {
					t.Fatalf("Feed of %s with %s has no error", name(s), short(b))
				}
				for _, size := range []int{1, 2, 9, 10, 40} {
					wantSameInPieces(t, s, cut(b, size))
				}
			}
		}
	}
}

func TestP10_3ButForTooManyBytes(t *testing.T) {
	longest := rows.Code(rows.Alike(math.MaxUint32, api.MaxList))
	b := append(bytesOf(longest), make([]byte, 600)...)
	wantNotFed(t, mustStart(t, api.MaxList), b, api.ErrMany)
	x, l, e := inPieces(mustStart(t, api.MaxList), cut(b, 1))
	wantSame(t, "one by one", x, l, e, api.Resume{}, nil, api.ErrMore)
	x, l, e = inPieces(mustStart(t, api.MaxList), cut(b, 41000))
	wantSame(t, "at most 41000", x, l, e, api.Resume{}, nil, api.ErrMore)
}

func TestP10_3TheBytesOfACodeGiveItsNumbers(t *testing.T) {
	for i, l := range append(rows.ShortLists(), rows.LongLists()...) {
		code, e := coder.Encode(l)
		if e != api.OK {
			t.Fatal(e)
		}
		filled, e := bits.Align(code)
		if e != api.OK {
			t.Fatal(e)
		}
		d, e := coder.After(l)
		if e != api.OK {
			t.Fatal(e)
		}
		want := waiting(0, d, strings.Repeat("0", filled.N-code.N))
		for _, pieces := range [][][]byte{{filled.Bytes}, cut(filled.Bytes, 5), cutUnevenly(filled.Bytes, i, 30)} {
			x, list, e := inPieces(mustStart(t, len(l)), pieces)
			wantSame(t, fmt.Sprint(len(l), " numbers in ", len(pieces), " pieces"), x, list, e, want, l, api.OK)
		}
	}
}

// What coder.Decode decodes from all bits is what comes from their bytes.
func TestP10_3AsDecode(t *testing.T) {
	for seed := range 150 {
		b := bytesOf(rows.Noise(seed, 16*seed))
		all, e := bits.Of(b)
		if e != api.OK {
			t.Fatal(e)
		}
		for _, n := range []int{0, 1, 2, seed, seed + 9, 3 * seed, api.MaxList} {
			l, at, want := coder.Decode(all, n)
			if want == api.OK && all.N-at >= 8 {
				l, want = nil, api.ErrMore
			}
			x, list, e := resume.Feed(mustStart(t, n), b)
			if want == api.ErrShort {
				if e != api.OK || x.Left == 0 || x.Left+len(list) != n {
					t.Fatalf("%d numbers of %s: %d of them, %s, %d; they are too few for Decode", n, short(b), len(list), name(x), e)
				}
				continue
			}
			if e != want || !slices.Equal(list, l) || x.Left != 0 {
				t.Fatalf("%d numbers of %s: %v, %s, %d; want %v, %d", n, short(b), list, name(x), e, l, want)
			}
		}
	}
}

func TestP10_3TheStateIsValid(t *testing.T) {
	for i, start := range validStates() {
		for seed := range 6 {
			s := start
			for _, b := range cut(bytesOf(rows.Noise(i+seed, 500)), 1+seed) {
				x, _, e := resume.Feed(s, b)
				if c := resume.Check(x); e == api.OK && (c != api.OK || x.Rest.N > 80 || x.Left > s.Left) {
					t.Fatalf("Feed of %s with %s: %s", name(s), short(b), name(x))
				}
				if e != api.OK {
					break
				}
				s = x
			}
		}
	}
}

func TestP1StatesAndBytesAreOnlyReadAndMemoryIsNotShared(t *testing.T) {
	for i, s := range validStates() {
		for _, length := range []int{0, 1, 2, 3, 12} {
			b := bytesOf(rows.Noise(i+length, 8*length))
			want, wantList, wantErr := fed(s, b)
			// The memory goes on behind both arguments: neither read nor written.
			rest := append(bytes.Clone(s.Rest.Bytes), 0xa5, 0xa5, 0xa5, 0xa5)
			piece := append(bytes.Clone(b), 0xa5, 0xa5, 0xa5, 0xa5)
			restBefore, pieceBefore := bytes.Clone(rest), bytes.Clone(piece)
			arg := s
			arg.Rest.Bytes = rest[:len(s.Rest.Bytes)]
			if e := resume.Check(arg); e != api.OK {
				t.Fatalf("Check of %s: %d", name(arg), e)
			}
			x, l, e := resume.Feed(arg, piece[:len(b)])
			if !bytes.Equal(rest, restBefore) || !bytes.Equal(piece, pieceBefore) {
				t.Fatalf("Feed of %s with %s changes its arguments", name(s), short(b))
			}
			clear(rest)
			clear(piece)
			wantSame(t, "changed arguments", x, l, e, want, wantList, wantErr)
			copy(rest, restBefore)
			copy(piece, pieceBefore)
			clear(x.Rest.Bytes)
			_ = append(x.Rest.Bytes, 1, 2, 3)
			clear(l)
			_ = append(l, 1, 2, 3)
			if !bytes.Equal(rest, restBefore) || !bytes.Equal(piece, pieceBefore) {
				t.Fatalf("a change in the results of Feed of %s with %s changes its arguments", name(s), short(b))
			}
			wantFed(t, arg, piece[:len(b)])
		}
	}
}

// Also a state with neither bits nor numbers keeps nothing of the arguments.
func TestP1FeedWithoutBytesSharesNoMemory(t *testing.T) {
	rest := []byte{3, 0, 0}
	s := api.Resume{Left: 9, Dual: api.Dual{}, Rest: api.Bits{Bytes: rest[:1], N: 2}}
	x, _, e := resume.Feed(s, nil)
	if e != api.OK || len(x.Rest.Bytes) != 1 {
		t.Fatalf("%s, %d", name(x), e)
	}
	x.Rest.Bytes[0] = 1
	_ = append(x.Rest.Bytes, 7)
	if !bytes.Equal(rest, []byte{3, 0, 0}) {
		t.Errorf("the argument is %v now", rest)
	}
}

func TestP1LooksAtTheLengthNotTheCapacity(t *testing.T) {
	memory := bytesOf(rows.Code([]uint32{5, 2000, 9, 70000, 1}))
	for length := range len(memory) + 1 {
		for n := range 7 {
			wantFed(t, mustStart(t, n), memory[:length])
		}
	}
	room := make([]byte, 41000, 90000)
	wantNotFed(t, mustStart(t, 1), room, api.ErrMore)
}

// Whatever the arguments are: no call panics, and with an error all else is 0.
func TestP1ResultsForAllArguments(t *testing.T) {
	pieces := [][]byte{nil, {0}, {255, 255}, make([]byte, 100), bytes.Repeat([]byte{255}, 100), bytesOf(rows.Noise(5, 999)), make([]byte, 41000), make([]byte, 50000)}
	for _, s := range append(brokenStates(), validStates()...) {
		for _, b := range pieces {
			x, l, e := resume.Feed(s, b)
			if e != api.OK && (len(l) != 0 || !same(x, api.Resume{})) || e == api.OK && (resume.Check(x) != api.OK || x.Left+len(l) != s.Left) {
				t.Fatalf("Feed of %s with %s: %s, %v, %d", name(s), short(b), name(x), l, e)
			}
		}
	}
}

func TestP1NothingIsKeptFromCallToCall(t *testing.T) {
	b := bytesOf(rows.Code([]uint32{5, math.MaxUint32, 0}))
	for range 3 {
		wantNotFed(t, mustStart(t, 2), b, api.ErrMore)
		wantNotFed(t, api.Resume{Left: -1}, b, api.ErrBad)
		wantNotFed(t, mustStart(t, 3), make([]byte, 41001), api.ErrMany)
		wantFed(t, mustStart(t, 3), b[:5])
		wantFed(t, mustStart(t, 3), b)
		wantFed(t, mustStart(t, 4000), b)
		if s := mustStart(t, 0); !same(s, waiting(0, rows.Start(), "")) {
			t.Fatal(name(s))
		}
	}
}
