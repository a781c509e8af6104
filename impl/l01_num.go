package impl

import "strconv"

const MaxTwo = 65535

const (
	maxPad    = 64
	maxParsed = 99999
)

// joined copies b, so that the result never shares b's spare capacity.
func joined(b []byte, more ...byte) []byte {
	out := make([]byte, 0, len(b)+len(more))
	out = append(out, b...)
	return append(out, more...)
}

func Put2(b []byte, n int) []byte {
	if n < 0 || n > MaxTwo {
		return joined(b)
	}
	return joined(b, byte(n>>8), byte(n))
}

func Get2(b []byte, at int) (int, bool) {
	// at+1 is not compared with len(b): it wraps around for the largest at.
	if at < 0 || at > len(b)-2 {
		return 0, false
	}
	return int(b[at])<<8 | int(b[at+1]), true
}

func Pad(b []byte, n int) []byte {
	if n <= len(b) || n > maxPad {
		return joined(b)
	}
	return joined(b, make([]byte, n-len(b))...)
}

func Least(a int, b int) int {
	return min(a, b)
}

func Most(a int, b int) int {
	return max(a, b)
}

func Up(n int, by int) int {
	if n < 1 || by < 1 {
		return 0
	}
	// n+by-1 could wrap around.
	return (n-1)/by + 1
}

func NumText(n int) string {
	return strconv.Itoa(n)
}

func ParseNum(s string) (int, bool) {
	n, err := strconv.Atoi(s)
	if err != nil || n < 0 || n > maxParsed || NumText(n) != s {
		return 0, false
	}
	return n, true
}
