package rows

import (
	"bytes"
	"strconv"

	"cadenza/api"
)

// MemoryFault tells how calls break the rules about memory, with the bits of a text as their argument; "" if they do not. The function makes the calls, and returns all bits that they return.
func MemoryFault(text string, results func(b api.Bits) []api.Bits) string {
	b := Bits(text)
	want := results(Bits(text))
	// The memory goes on behind the bits, with bytes that are not 0: neither read nor written by any call.
	memory := append(bytes.Clone(b.Bytes), bytes.Repeat([]byte{0xa5}, 12)...)
	b.Bytes = memory[:len(b.Bytes)]
	before := bytes.Clone(memory)
	made := results(b)
	if !bytes.Equal(memory, before) {
		return "the argument was changed"
	}
	if i := firstOther(made, want); i >= 0 {
		return "what is behind the argument changes result " + strconv.Itoa(i)
	}
	copy(memory, turned(before))
	if i := firstOther(made, want); i >= 0 {
		return "a change of the argument changes result " + strconv.Itoa(i)
	}
	copy(memory, before)
	for i, c := range made {
		copy(c.Bytes, turned(c.Bytes))
		_ = append(c.Bytes, 0x3c)
		if !bytes.Equal(memory, before) || firstOther(made[i+1:], want[i+1:]) >= 0 {
			return "a change in or behind result " + strconv.Itoa(i) + " changes the argument or another result"
		}
	}
	if i := firstOther(results(b), want); i >= 0 {
		return "a change of earlier results changes result " + strconv.Itoa(i)
	}
	return ""
}

// turned are bytes of which each bit is another one.
func turned(b []byte) []byte {
	out := make([]byte, len(b))
	for i, x := range b {
		out[i] = ^x
	}
	return out
}

// firstOther is the index of the first bits that are not the wanted ones, and -1 if there are none.
func firstOther(l, want []api.Bits) int {
	for i, b := range l {
		if !Same(b, want[i]) {
			return i
		}
	}
	return -1
}
