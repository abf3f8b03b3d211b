package resume_test

import (
	"strings"
	"testing"

	"cadenza/api"
	"cadenza/internal/rows"
	"cadenza/resume"
)

func TestP10_1Start(t *testing.T) {
	for n := range api.MaxList + 1 {
		s, e := resume.Start(n)
		if e != api.OK || !same(s, waiting(n, rows.Start(), "")) {
			t.Fatalf("Start(%d) = %s, %d", n, name(s), e)
		}
		if e := resume.Check(s); e != api.OK {
			t.Fatalf("Check of %s: %d", name(s), e)
		}
	}
}

func TestP10_1StartRefuses(t *testing.T) {
	for _, n := range badLefts() {
		want := api.ErrMany
		if n < 0 {
			want = api.ErrArg
		}
		if s, e := resume.Start(n); e != want || !same(s, api.Resume{}) {
			t.Errorf("Start(%d) = %s, %d; want error %d", n, name(s), e, want)
		}
	}
}

// wantChecked checks a state whose Left, Dual and Rest are valid.
func wantChecked(t *testing.T, s api.Resume) {
	t.Helper()
	want := api.ErrBad
	if isValid(s) {
		want = api.OK
	}
	if e := resume.Check(s); e != want {
		t.Fatalf("Check of %s: %d; want %d", name(s), e, want)
	}
}

func TestP10_1CheckOfAllShortRests(t *testing.T) {
	for k0 := range 5 {
		for k1 := range 4 {
			d := api.Dual{K0: k0, K1: k1, Sum0: 40, Sum1: 50}
			for length := range 10 {
				for x := range uint64(1) << length {
					for _, left := range []int{0, 1, 2, 4000} {
						wantChecked(t, waiting(left, d, rows.Digits(x, length)))
					}
				}
			}
		}
	}
}

func TestP10_1CheckOfPartsOfCodes(t *testing.T) {
	for i, d := range rows.AllKs() {
		for j, v := range rows.DualNumbers(d) {
			if (i+j)%29 != 0 {
				continue
			}
			code := rows.Dual(d, v)
			for length := range code {
				if e := resume.Check(waiting(1+i, d, code[:length])); e != api.OK {
					t.Fatalf("%d of the bits %s in %v: %d", length, code, d, e)
				}
			}
			for _, tail := range []string{"", "0", "1", rows.Noise(j, 70)} {
				if e := resume.Check(waiting(1+i, d, code+tail)); e != api.ErrBad {
					t.Fatalf("%s%s in %v: %d", code, tail, d, e)
				}
			}
		}
	}
}

// A code that is refused is no code that is not there yet; but it is refused only when it is complete.
func TestP10_1CheckOfRefusedCodes(t *testing.T) {
	for _, d := range rows.AllKs() {
		for _, bad := range rows.Refused(d) {
			for _, left := range []int{1, 4000} {
				wantChecked(t, waiting(left, d, bad))
				wantChecked(t, waiting(left, d, bad+"0110"))
				if e := resume.Check(waiting(left, d, bad[:80])); e != api.OK {
					t.Fatalf("80 bits of %s in %v: %d", bad, d, e)
				}
			}
		}
	}
}

func TestP10_1CheckWithNothingLeft(t *testing.T) {
	for _, d := range rows.AllKs() {
		for _, text := range rows.Texts(20) {
			wantChecked(t, waiting(0, d, text))
		}
	}
	for _, d := range someDuals() {
		for length := range 9 {
			for x := range uint64(1) << length {
				wantChecked(t, waiting(0, d, rows.Digits(x, length)))
			}
		}
		wantChecked(t, waiting(0, d, strings.Repeat("1", 80)))
		wantChecked(t, api.Resume{Dual: d, Rest: rows.Full(0)})
	}
}

func TestP10_1CheckOfLongRests(t *testing.T) {
	for _, d := range someDuals() {
		for _, left := range []int{0, 1, 4000} {
			for _, length := range []int{79, 80, 81, 82, 1000, api.MaxBits} {
				for _, text := range []string{rows.Noise(3, length), strings.Repeat("1", length), strings.Repeat("0", length)} {
					wantChecked(t, waiting(left, d, text))
				}
			}
		}
	}
}

func TestP10_1CheckOfValidStates(t *testing.T) {
	for _, s := range validStates() {
		if e := resume.Check(s); e != api.OK {
			t.Errorf("Check of %s: %d", name(s), e)
		}
	}
	for left := range api.MaxList + 1 {
		if e := resume.Check(waiting(left, api.Dual{}, "11")); e != api.OK {
			t.Errorf("Check with %d left: %d", left, e)
		}
	}
	for _, rest := range []api.Bits{{}, {Bytes: []byte{}}, {Bytes: []byte{1, 2}[:0]}} {
		for _, left := range []int{0, 1} {
			if e := resume.Check(api.Resume{Left: left, Rest: rest}); e != api.OK {
				t.Errorf("Check with no bits and %d left: %d", left, e)
			}
		}
	}
}

func TestP10_1CheckOfOthers(t *testing.T) {
	for _, s := range brokenStates() {
		if e := resume.Check(s); e != api.ErrBad {
			t.Errorf("Check of %s: %d", name(s), e)
		}
	}
}
