package tests

import (
	"bytes"
	"math"
	"strconv"
	"strings"
	"testing"

	"loop.example/g00492/impl"
)

// roomy returns a copy of b whose spare capacity is full of 170s, so that a
// test can see whether a function reads or writes beyond the length.
func roomy(b []byte) []byte {
	full := append(bytes.Clone(b), bytes.Repeat([]byte{170}, 80)...)
	return full[:len(b)]
}

// leavesAlone reports an argument, or its spare capacity, that was modified,
// and a result that shares memory with it.
func leavesAlone(t *testing.T, name string, b []byte, call func([]byte) []byte) {
	t.Helper()
	arg := roomy(b)
	got := call(arg)
	want := bytes.Clone(got)
	if !bytes.Equal(arg[:cap(arg)], roomy(b)[:cap(arg)]) {
		t.Errorf("%s: the argument was modified", name)
	}
	all := arg[:cap(arg)]
	for i := range all {
		all[i] = 99
	}
	if !bytes.Equal(got, want) {
		t.Errorf("%s: the result shares memory with the argument", name)
	}
}

func TestPut2(t *testing.T) {
	cases := []struct {
		b    []byte
		n    int
		want []byte
	}{
		{nil, 0, []byte{0, 0}},
		{nil, 1, []byte{0, 1}},
		{nil, 255, []byte{0, 255}},
		{nil, 256, []byte{1, 0}},
		{nil, 258, []byte{1, 2}},
		{[]byte{7, 8}, 4660, []byte{7, 8, 18, 52}},
		{nil, 65534, []byte{255, 254}},
		{[]byte{7}, impl.MaxTwo, []byte{7, 255, 255}},
		{[]byte{7}, impl.MaxTwo + 1, []byte{7}},
		{nil, impl.MaxTwo + 1, nil},
		{[]byte{7}, -1, []byte{7}},
		{[]byte{7}, math.MaxInt, []byte{7}},
		{[]byte{7}, math.MinInt, []byte{7}},
	}
	for _, c := range cases {
		if got := impl.Put2(c.b, c.n); !bytes.Equal(got, c.want) {
			t.Errorf("Put2(%v, %d) = %v, want %v", c.b, c.n, got, c.want)
		}
	}
	if impl.MaxTwo != 65535 {
		t.Errorf("MaxTwo = %d", impl.MaxTwo)
	}
}

func TestPut2ResultIsNew(t *testing.T) {
	for _, n := range []int{258, impl.MaxTwo, impl.MaxTwo + 1, -1} {
		leavesAlone(t, "Put2 of "+strconv.Itoa(n), []byte{1, 2, 3}, func(b []byte) []byte {
			return impl.Put2(b, n)
		})
	}
}

// Promise 1: integers are decoded from their two bytes.
func TestEveryTwoByteIntegerIsDecoded(t *testing.T) {
	for n := 0; n <= impl.MaxTwo; n++ {
		b := append(impl.Put2([]byte{9}, n), 9)
		if len(b) != 4 || b[0] != 9 {
			t.Fatalf("Put2 of %d: %v", n, b)
		}
		if got, ok := impl.Get2(b, 1); !ok || got != n {
			t.Fatalf("Get2 of %d: %d, %v", n, got, ok)
		}
	}
}

func TestGet2(t *testing.T) {
	b := []byte{1, 2, 255, 255}
	for at, want := range []int{258, 767, 65535} {
		if got, ok := impl.Get2(b, at); !ok || got != want {
			t.Errorf("Get2 at %d = %d, %v, want %d", at, got, ok, want)
		}
	}
}

func TestGet2WithoutTwoBytes(t *testing.T) {
	cases := []struct {
		b  []byte
		at int
	}{
		{[]byte{1, 2, 3}, 2},
		{[]byte{1, 2, 3}, 3},
		{[]byte{1, 2, 3}, 4},
		{[]byte{1, 2, 3}, -1},
		{[]byte{1, 2, 3}, -2},
		{[]byte{1, 2, 3}, math.MaxInt},
		{[]byte{1, 2, 3}, math.MaxInt - 1},
		{[]byte{1, 2, 3}, math.MinInt},
		{[]byte{1}, 0},
		{[]byte{1}, -1},
		{nil, 0},
		{nil, -1},
		{nil, -2},
		{roomy([]byte{1, 2, 3}), 2},
		{roomy(nil), 0},
	}
	for _, c := range cases {
		if got, ok := impl.Get2(c.b, c.at); ok || got != 0 {
			t.Errorf("Get2(%v, %d) = %d, %v", c.b, c.at, got, ok)
		}
	}
}

func TestPad(t *testing.T) {
	some := []byte{7, 0, 8}
	long := bytes.Repeat([]byte{5}, 70)
	cases := []struct {
		b    []byte
		n    int
		want []byte
	}{
		{some, 4, []byte{7, 0, 8, 0}},
		{some, 6, []byte{7, 0, 8, 0, 0, 0}},
		{some, 3, some},
		{some, 2, some},
		{some, 0, some},
		{some, -1, some},
		{some, math.MinInt, some},
		{some, 65, some},
		{some, math.MaxInt, some},
		{nil, 2, []byte{0, 0}},
		{nil, 0, nil},
		{nil, 64, make([]byte, 64)},
		{nil, 65, nil},
		{long[:63], 64, append(bytes.Clone(long[:63]), 0)},
		{long[:64], 64, long[:64]},
		{long[:64], 65, long[:64]},
		{long, 64, long},
		{long, 71, long},
	}
	for _, c := range cases {
		if got := impl.Pad(c.b, c.n); !bytes.Equal(got, c.want) {
			t.Errorf("Pad(%v, %d) = %v, want %v", c.b, c.n, got, c.want)
		}
	}
	if got := impl.Pad(roomy(some), 6); !bytes.Equal(got, []byte{7, 0, 8, 0, 0, 0}) {
		t.Errorf("Pad uses the spare capacity: %v", got)
	}
}

func TestPadResultIsNew(t *testing.T) {
	for _, n := range []int{-1, 2, 3, 5, 64, 65} {
		leavesAlone(t, "Pad to "+strconv.Itoa(n), []byte{1, 2, 3}, func(b []byte) []byte {
			return impl.Pad(b, n)
		})
	}
}

func TestLeastAndMost(t *testing.T) {
	cases := []struct{ a, b, least, most int }{
		{1, 2, 1, 2},
		{2, 1, 1, 2},
		{4, 4, 4, 4},
		{3, -1, -1, 3},
		{-5, -4, -5, -4},
		{0, 0, 0, 0},
		{math.MinInt, math.MaxInt, math.MinInt, math.MaxInt},
		{math.MaxInt, math.MinInt, math.MinInt, math.MaxInt},
	}
	for _, c := range cases {
		if got := impl.Least(c.a, c.b); got != c.least {
			t.Errorf("Least(%d, %d) = %d", c.a, c.b, got)
		}
		if got := impl.Most(c.a, c.b); got != c.most {
			t.Errorf("Most(%d, %d) = %d", c.a, c.b, got)
		}
	}
}

func TestUp(t *testing.T) {
	cases := []struct{ n, by, want int }{
		{1, 1, 1},
		{1, 4, 1},
		{3, 4, 1},
		{4, 4, 1},
		{5, 4, 2},
		{8, 4, 2},
		{9, 4, 3},
		{40, 4, 10},
		{7, 1, 7},
		{math.MaxInt, 1, math.MaxInt},
		{math.MaxInt, 2, 1 << 62},
		{math.MaxInt, math.MaxInt, 1},
		{math.MaxInt - 1, math.MaxInt, 1},
		{1, math.MaxInt, 1},
		{0, 4, 0},
		{-1, 4, 0},
		{-8, 4, 0},
		{math.MinInt, 4, 0},
		{3, 0, 0},
		{3, -1, 0},
		{3, math.MinInt, 0},
		{0, 0, 0},
		{-8, -4, 0},
		{math.MinInt, -1, 0},
	}
	for _, c := range cases {
		if got := impl.Up(c.n, c.by); got != c.want {
			t.Errorf("Up(%d, %d) = %d, want %d", c.n, c.by, got, c.want)
		}
	}
}

func TestNumText(t *testing.T) {
	cases := map[int]string{
		0:            "0",
		7:            "7",
		10:           "10",
		-1:           "-1",
		-40:          "-40",
		99999:        "99999",
		100000:       "100000",
		math.MaxInt:  "9223372036854775807",
		math.MinInt:  "-9223372036854775808",
		-math.MaxInt: "-9223372036854775807",
	}
	for n, want := range cases {
		if got := impl.NumText(n); got != want {
			t.Errorf("NumText(%d) = %q", n, got)
		}
	}
}

func TestEveryNumberIsParsedFromItsText(t *testing.T) {
	for n := 0; n <= 99999; n++ {
		if got, ok := impl.ParseNum(impl.NumText(n)); !ok || got != n {
			t.Fatalf("ParseNum of %d: %d, %v", n, got, ok)
		}
	}
}

func TestParseNumRejects(t *testing.T) {
	texts := []string{
		"", "-", "+", " ", "x",
		"00", "01", "007", "000000", "-0", "+0", "+7",
		"100000", "999999", "-1", "-99999",
		" 1", "1 ", "1\n", "1\x00", "1x", "x1", "1 2", "1,2",
		"1_0", "1.0", "1e3", "0x1", "0b1",
		"9223372036854775807", "9223372036854775808", "18446744073709551617", "4294967297",
		strings.Repeat("9", 400), strings.Repeat("0", 400) + "1",
		"\u0661", "\uff11", "\xff",
	}
	for _, s := range texts {
		if got, ok := impl.ParseNum(s); ok || got != 0 {
			t.Errorf("ParseNum(%q) = %d, %v", s, got, ok)
		}
	}
}
