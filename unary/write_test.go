package unary_test

import (
	"fmt"
	"testing"

	"cadenza/api"
	"cadenza/internal/rows"
	"cadenza/unary"
)

func TestP6_1AllNumbers(t *testing.T) {
	for n := range 49 {
		if length := mustLength(t, n); length != len(run(n)) {
			t.Errorf("Length(%d) = %d", n, length)
		}
	}
	for n, want := range map[int]int{0: 1, 1: 2, 3: 4, 46: 47, 47: 48, 48: 48} {
		if length := mustLength(t, n); length != want {
			t.Errorf("Length(%d) = %d", n, length)
		}
	}
}

func TestP6_1OtherNumbers(t *testing.T) {
	for _, n := range badNumbers {
		if length, e := unary.Length(n); e != api.ErrArg || length != 0 {
			t.Errorf("Length(%d) = %d, %d", n, length, e)
		}
	}
}

func TestP6_2Examples(t *testing.T) {
	for n, want := range map[int]string{
		0:  "0",
		3:  "1110",
		47: "111111111111111111111111111111111111111111111110",
		48: "111111111111111111111111111111111111111111111111",
	} {
		b, e := unary.Write(api.Bits{}, n)
		if e != api.OK || !rows.Same(b, rows.Bits(want)) {
			t.Errorf("Write of %d = %v, %d", n, b, e)
		}
	}
}

func TestP6_2AllNumbersBehindBits(t *testing.T) {
	for _, head := range rows.Heads() {
		for n := range 49 {
			wantWritten(t, head, n)
		}
	}
}

func TestP6_2BehindNothing(t *testing.T) {
	for _, b := range []api.Bits{{}, {Bytes: []byte{}}, {Bytes: []byte{255, 255}[:0]}} {
		for n := range 49 {
			c, e := unary.Write(b, n)
			if e != api.OK || !rows.Same(c, rows.Bits(run(n))) {
				t.Errorf("Write of %d = %v, %d", n, c, e)
			}
		}
	}
}

func TestP6_2UpToTheLimit(t *testing.T) {
	for _, n := range []int{0, 1, 6, 7, 8, 46, 47, 48} {
		length := len(run(n))
		for _, room := range []int{length, length + 1, length + 8} {
			front := rows.Full(room)
			b, e := unary.Write(front, n)
			if e != api.OK || b.N != front.N+length {
				t.Fatalf("Write of %d with room for %d: %d bits, %d", n, room, b.N, e)
			}
			wantRead(t, "almost full bits", b, front.N, n, front.N+length)
		}
		for room := range length {
			wantNotWritten(t, fmt.Sprint("bits with room for ", room), rows.Full(room), n, api.ErrFull)
		}
	}
}

func TestP6_2RefusesNumbersWithoutRun(t *testing.T) {
	for _, n := range badNumbers {
		wantNotWritten(t, "nothing", api.Bits{}, n, api.ErrArg)
		wantNotWritten(t, "bits", rows.Bits("10110"), n, api.ErrArg)
	}
}

func TestP6_2RefusesInOrder(t *testing.T) {
	for what, b := range rows.Broken() {
		for _, n := range append([]int{0, 1, 47, 48}, badNumbers...) {
			wantNotWritten(t, what, b, n, api.ErrBad)
		}
	}
	full := rows.Full(0)
	for _, n := range badNumbers {
		wantNotWritten(t, "full bits", full, n, api.ErrArg)
	}
}
