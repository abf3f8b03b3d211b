package resume_test

import (
	"fmt"
	"math"
	"slices"
	"testing"

	"cadenza/api"
	"cadenza/internal/rows"
	"cadenza/resume"
)

// waiting is a state that waits for some numbers, with the bits of a text.
func waiting(left int, d api.Dual, rest string) api.Resume {
	return api.Resume{Left: left, Dual: d, Rest: rows.Bits(rest)}
}

// isValid tells whether a state is valid whose Left, Dual and Rest are, as the chapter defines it.
func isValid(s api.Resume) bool {
	if s.Left == 0 {
		return s.Rest.N < 8
	}
	_, _, e := rows.FirstDual(rows.Text(s.Rest), s.Dual)
	return e == api.ErrShort
}

// fed is a state after feeding bytes, and the numbers that were read, as the chapter defines it.
func fed(s api.Resume, b []byte) (api.Resume, []uint32, api.Errno) {
	text := rows.Text(s.Rest) + rows.Text(api.Bits{Bytes: b, N: 8 * len(b)})
	left, d := s.Left, s.Dual
	var l []uint32
	for left > 0 {
		v, length, e := rows.FirstDual(text, d)
		if e == api.ErrShort {
			break
		}
		if e != api.OK {
			return api.Resume{}, nil, e
		}
		l = append(l, v)
		left, d, text = left-1, rows.Behind(d, v), text[length:]
	}
	if left == 0 && len(text) >= 8 {
		return api.Resume{}, nil, api.ErrMore
	}
	return waiting(left, d, text), l, api.OK
}

// inPieces is a state after feeding several pieces, and all numbers; the error of the first piece that has one.
func inPieces(s api.Resume, pieces [][]byte) (api.Resume, []uint32, api.Errno) {
	var all []uint32
	for _, b := range pieces {
		x, l, e := resume.Feed(s, b)
		if e != api.OK {
			return api.Resume{}, nil, e
		}
		s, all = x, append(all, l...)
	}
	return s, all, api.OK
}

// cut are pieces with so many bytes, but for the last one.
func cut(b []byte, size int) [][]byte { return slices.Collect(slices.Chunk(b, size)) }

// cutUnevenly are pieces of different sizes, some of them without a byte.
func cutUnevenly(b []byte, seed, most int) [][]byte {
	pieces := [][]byte{nil}
	for _, x := range rows.AllSizes(seed, len(b)) {
		size := min(int(x)%most, len(b))
		pieces = append(pieces, b[:size])
		b = b[size:]
	}
	return append(pieces, b)
}

// bytesOf are the bytes of a text that is filled up.
func bytesOf(text string) []byte { return rows.Bits(text).Bytes }

// badLefts are no numbers of numbers; some would be one if they were cut to fewer bits.
func badLefts() []int {
	l := append(rows.BadIndexes(), -api.MaxList, math.MaxInt, math.MaxInt-1, 1<<32, 1<<32+1, 1<<31)
	return append(l, rows.TooMany()...)
}

// someDuals are valid ones, with small and great K.
func someDuals() []api.Dual {
	return []api.Dual{
		rows.Start(), {}, {K0: 1, K1: 2, Sum0: 20, Sum1: 70}, {K0: 0, K1: 24, Sum0: 5, Sum1: rows.MaxSum},
		{K0: 3, K1: 0, Sum0: 200, Sum1: 3}, {K0: 24, K1: 0, Sum0: rows.MaxSum}, {K0: 24, K1: 24, Sum0: rows.MaxSum, Sum1: rows.MaxSum},
	}
}

// longestRest are bits of which one more makes a code of a number in a state, though no longer code is possible.
func longestRest(d api.Dual) string {
	return rows.Dual(d, math.MaxUint32)[:80]
}

// validStates are of all kinds.
func validStates() []api.Resume {
	var l []api.Resume
	for i, d := range someDuals() {
		for _, left := range []int{1, 2, 17, 3999, 4000} {
			l = append(l, waiting(left, d, ""), waiting(left, d, longestRest(d)))
			for _, v := range rows.AllSizes(i+left, 6) {
				code := rows.Dual(d, v)
				l = append(l, waiting(left, d, code[:len(code)-1]), waiting(left, d, code[:len(code)/2]))
			}
		}
		for length := range 8 {
			l = append(l, waiting(0, d, rows.Noise(i, length)))
		}
	}
	return l
}

// brokenStates are states that are not valid, most of them in one part alone.
func brokenStates() []api.Resume {
	var l []api.Resume
	for _, left := range badLefts() {
		l = append(l, waiting(left, rows.Start(), ""), waiting(left, api.Dual{}, "1"), waiting(left, rows.Start(), "01010000000"))
	}
	for i, d := range rows.BrokenDuals() {
		l = append(l, waiting(i%2, d, ""), waiting(4000, d, "1"), waiting(0, d, "0101"))
	}
	for _, b := range rows.Broken() {
		for _, left := range []int{0, 1, 4000} {
			l = append(l, api.Resume{Left: left, Dual: rows.Start(), Rest: b}, api.Resume{Left: left, Rest: b})
		}
	}
	for i, d := range someDuals() {
		for _, tail := range []string{"", "0", "11111111", rows.Noise(i, 100)} {
			for _, v := range rows.AllSizes(i, 5) {
				l = append(l, waiting(1, d, rows.Dual(d, v)+tail), waiting(4000, d, rows.Dual(d, v)+tail))
			}
			for _, bad := range rows.Refused(d) {
				l = append(l, waiting(1, d, bad+tail), waiting(4000, d, bad+tail))
			}
			l = append(l, waiting(0, d, "01010101"+tail), waiting(0, d, "11111111"+tail))
		}
	}
	return l
}

// name tells which state it is.
func name(s api.Resume) string {
	rest := fmt.Sprint(s.Rest.N, " bits in ", len(s.Rest.Bytes), " bytes")
	if s.Rest.N >= 0 && s.Rest.N <= 100 && s.Rest.N <= 8*len(s.Rest.Bytes) {
		rest = rows.Text(s.Rest)
	}
	return fmt.Sprint(s.Left, " left, ", s.Dual, ", ", rest)
}

// short tells which bytes they are.
func short(b []byte) string { return fmt.Sprint(len(b), " bytes ", b[:min(len(b), 20)]) }

func same(a, b api.Resume) bool {
	return a.Left == b.Left && a.Dual == b.Dual && rows.Same(a.Rest, b.Rest)
}

// wantSame compares what feeding has given with what it should give.
func wantSame(t *testing.T, what string, s api.Resume, l []uint32, e api.Errno, want api.Resume, wantList []uint32, wantErr api.Errno) {
	t.Helper()
	if e != wantErr || !same(s, want) || !slices.Equal(l, wantList) {
		t.Fatalf("%s: %s, %d numbers %v, %d; want %s, %d numbers %v, %d", what,
			name(s), len(l), l[:min(len(l), 9)], e, name(want), len(wantList), wantList[:min(len(wantList), 9)], wantErr)
	}
}

// wantFed feeds a valid state as the chapter defines it.
func wantFed(t *testing.T, s api.Resume, b []byte) {
	t.Helper()
	x, l, e := resume.Feed(s, b)
	want, wantList, wantErr := fed(s, b)
	wantSame(t, "Feed of "+name(s)+" with "+short(b), x, l, e, want, wantList, wantErr)
}

func wantNotFed(t *testing.T, s api.Resume, b []byte, want api.Errno) {
	t.Helper()
	x, l, e := resume.Feed(s, b)
	wantSame(t, "Feed of "+name(s)+" with "+short(b), x, l, e, api.Resume{}, nil, want)
}

// wantSameInPieces feeds a state in pieces and at once.
func wantSameInPieces(t *testing.T, s api.Resume, pieces [][]byte) {
	t.Helper()
	all := slices.Concat(pieces...)
	want, wantList, wantErr := resume.Feed(s, all)
	x, l, e := inPieces(s, pieces)
	wantSame(t, fmt.Sprint(name(s), " with ", short(all), " in ", len(pieces), " pieces"), x, l, e, want, wantList, wantErr)
}

func mustStart(t *testing.T, n int) api.Resume {
	t.Helper()
	s, e := resume.Start(n)
	if e != api.OK {
		t.Fatalf("Start(%d): %d", n, e)
	}
	return s
}
