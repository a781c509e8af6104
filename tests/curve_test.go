package tests

import (
	"math"
	"testing"

	"loop.example/g00492/impl"
)

type point struct{ x, y int }

// curveOf builds the curve of a square from four curves of half its side. It
// is the tests' own construction, by quadrants instead of by bits.
func curveOf(side int) []point {
	if side == 1 {
		return []point{{}}
	}
	half := side / 2
	part := curveOf(half)
	var l []point
	for _, p := range part {
		l = append(l, point{p.y, p.x})
	}
	for _, p := range part {
		l = append(l, point{p.x, p.y + half})
	}
	for _, p := range part {
		l = append(l, point{p.x + half, p.y + half})
	}
	for _, p := range part {
		l = append(l, point{side - 1 - p.y, half - 1 - p.x})
	}
	return l
}

// offCurve lists positions that do not exist.
func offCurve() []int {
	return []int{-1, -2, -65535, -65536, 65536, 65537, 131071, 1 << 31, 1 << 32, 1<<32 + 7, math.MaxInt, math.MaxInt - 1, math.MinInt, math.MinInt + 1}
}

// offGrid lists coordinates that no point has.
func offGrid() []int {
	return []int{-1, -2, -255, -256, 256, 257, 511, 512, 65536, 1 << 32, math.MaxInt, math.MaxInt - 1, math.MinInt, math.MinInt + 1}
}

func apart(a, b point) int {
	d := 0
	for _, n := range []int{a.x - b.x, a.y - b.y} {
		d += max(n, -n)
	}
	return d
}

func TestPointsAndPositions(t *testing.T) {
	if impl.Side != 256 {
		t.Errorf("Side = %d", impl.Side)
	}
	cases := []struct{ x, y, d int }{
		{0, 0, 0},
		{1, 0, 1},
		{1, 1, 2},
		{0, 1, 3},
		{0, 2, 4},
		{0, 3, 5},
		{2, 2, 8},
		{3, 0, 15},
		{4, 0, 16},
		{127, 0, 5461},
		{127, 127, 10922},
		{0, 127, 16383},
		{0, 128, 16384},
		{0, 255, 21845},
		{127, 128, 32767},
		{128, 128, 32768},
		{255, 255, 43690},
		{255, 128, 49151},
		{255, 127, 49152},
		{128, 127, 54613},
		{128, 0, 60074},
		{255, 1, 65532},
		{254, 1, 65533},
		{254, 0, 65534},
		{255, 0, 65535},
	}
	for _, c := range cases {
		if got := impl.Along(c.x, c.y); got != c.d {
			t.Errorf("Along(%d, %d) = %d, want %d", c.x, c.y, got, c.d)
		}
		if x, y := impl.PointAt(c.d); x != c.x || y != c.y {
			t.Errorf("PointAt(%d) = %d, %d, want %d, %d", c.d, x, y, c.x, c.y)
		}
	}
}

// Promise 3: every point has its position on the curve.
func TestEveryPointHasItsPosition(t *testing.T) {
	for d, p := range curveOf(impl.Side) {
		if got := impl.Along(p.x, p.y); got != d {
			t.Fatalf("Along(%d, %d) = %d, want %d", p.x, p.y, got, d)
		}
		if x, y := impl.PointAt(d); x != p.x || y != p.y {
			t.Fatalf("PointAt(%d) = %d, %d, want %d, %d", d, x, y, p.x, p.y)
		}
	}
}

// Promise 3, without the tests' own curve: the two functions are each other's
// inverse, and no two points share a position.
func TestPointsAndPositionsAreInverse(t *testing.T) {
	seen := make([]bool, impl.Side*impl.Side)
	for x := range impl.Side {
		for y := range impl.Side {
			d := impl.Along(x, y)
			if d < 0 || d >= len(seen) || seen[d] {
				t.Fatalf("Along(%d, %d) = %d, out of range or not for the first time", x, y, d)
			}
			seen[d] = true
			if u, v := impl.PointAt(d); u != x || v != y {
				t.Fatalf("PointAt(%d) = %d, %d, want %d, %d", d, u, v, x, y)
			}
		}
	}
	for d := range seen {
		x, y := impl.PointAt(d)
		if got := impl.Along(x, y); got != d {
			t.Fatalf("Along(%d, %d) = %d, want %d", x, y, got, d)
		}
	}
}

// Promise 3: consecutive positions are adjacent points.
func TestConsecutivePositionsAreAdjacent(t *testing.T) {
	for d := range impl.Side*impl.Side - 1 {
		var a, b point
		a.x, a.y = impl.PointAt(d)
		b.x, b.y = impl.PointAt(d + 1)
		if apart(a, b) != 1 {
			t.Fatalf("the points %v and %v of %d and %d are not adjacent", a, b, d, d+1)
		}
		if impl.Apart(d, d+1) != 1 || impl.Apart(d+1, d) != 1 {
			t.Fatalf("Apart of %d and %d: %d, %d", d, d+1, impl.Apart(d, d+1), impl.Apart(d+1, d))
		}
	}
}

func TestAlongOffTheGrid(t *testing.T) {
	for _, off := range offGrid() {
		for _, on := range []int{0, 1, 100, 128, 254, 255} {
			if got := impl.Along(off, on); got != -1 {
				t.Errorf("Along(%d, %d) = %d", off, on, got)
			}
			if got := impl.Along(on, off); got != -1 {
				t.Errorf("Along(%d, %d) = %d", on, off, got)
			}
		}
		for _, other := range offGrid() {
			if got := impl.Along(off, other); got != -1 {
				t.Errorf("Along(%d, %d) = %d", off, other, got)
			}
		}
	}
}

func TestPointAtOffTheCurve(t *testing.T) {
	for _, d := range offCurve() {
		if x, y := impl.PointAt(d); x != 0 || y != 0 {
			t.Errorf("PointAt(%d) = %d, %d", d, x, y)
		}
	}
}

func TestMiddle(t *testing.T) {
	cases := []struct {
		a    impl.Box
		x, y int
	}{
		{impl.Box{}, 0, 0},
		{box(3, 5, 9, 7), 6, 6},
		{box(7, 9, 7, 9), 7, 9},
		{box(1, 2, 4, 2), 2, 2},
		{box(1, 2, 1, 5), 1, 3},
		{box(0, 0, 1, 1), 0, 0},
		{box(1, 1, 2, 2), 1, 1},
		{box(0, 0, 255, 255), 127, 127},
		{box(255, 255, 255, 255), 255, 255},
		{box(254, 0, 255, 1), 254, 0},
		{box(0, 254, 1, 255), 0, 254},
		{box(9, 8, 2, 3), 5, 5},
		{box(255, 0, 256, 0), 255, 0},
		{box(0, 256, 0, 256), 0, 256},
		{box(-1, 0, 0, -1), 0, 0},
		{box(-1, -1, -1, -1), -1, -1},
		{box(-2, -1, -1, -2), -1, -1},
		{box(-2, -4, -3, -3), -2, -3},
		{box(-5, 5, 2, -2), -1, 1},
		{box(-300, -9, 301, 6), 0, -1},
	}
	for _, c := range cases {
		if x, y := impl.Middle(c.a); x != c.x || y != c.y {
			t.Errorf("Middle(%v) = %d, %d, want %d, %d", c.a, x, y, c.x, c.y)
		}
	}
}

// The sums of such coordinates wrap around before they are divided.
func TestMiddleOfExtremeBoxes(t *testing.T) {
	lowest, highest := math.MinInt, math.MaxInt
	cases := []struct{ from, to, want int }{
		{highest, 0, 1<<62 - 1},
		{highest - 1, 0, 1<<62 - 1},
		{lowest, 0, -1 << 62},
		{lowest + 1, 0, -1<<62 + 1},
		{lowest, highest, 0},
		{highest, 1, -1 << 62},
		{highest, 2, -1<<62 + 1},
		{highest, 3, -1<<62 + 1},
		{highest, highest, -1},
		{highest, highest - 1, -1},
		{highest - 1, highest - 1, -2},
		{lowest, lowest, 0},
		{lowest, lowest + 1, 0},
		{lowest + 1, lowest + 1, 1},
		{lowest, lowest + 511, 255},
		{lowest, -1, 1<<62 - 1},
		{lowest, -2, 1<<62 - 1},
	}
	for _, c := range cases {
		for _, a := range []impl.Box{box(c.from, 6, c.to, 9), box(c.to, 6, c.from, 9)} {
			if x, y := impl.Middle(a); x != c.want || y != 7 {
				t.Errorf("Middle(%v) = %d, %d, want %d, 7", a, x, y, c.want)
			}
		}
		for _, a := range []impl.Box{box(6, c.from, 9, c.to), box(6, c.to, 9, c.from)} {
			if x, y := impl.Middle(a); x != 7 || y != c.want {
				t.Errorf("Middle(%v) = %d, %d, want 7, %d", a, x, y, c.want)
			}
		}
	}
}

func TestKeyOf(t *testing.T) {
	lowest, highest := math.MinInt, math.MaxInt
	cases := []struct {
		a    impl.Box
		want int
	}{
		{impl.Box{}, 0},
		{box(1, 0, 1, 0), 1},
		{box(1, 2, 4, 2), 8},
		{box(0, 0, 255, 255), 10922},
		{box(255, 0, 255, 0), 65535},
		{box(254, 0, 255, 1), 65534},
		{box(255, 255, 255, 255), 43690},
		{box(3, 3, 1, 1), 8},
		{box(-3, 0, 7, 5), 8},
		{box(-1, -1, 0, 0), 0},
		{box(255, 0, 256, 0), 65535},
		{box(0, 255, 0, 256), 21845},
		{box(256, 0, 256, 0), -1},
		{box(0, 256, 0, 256), -1},
		{box(-1, 0, -1, 0), -1},
		{box(0, -2, 0, -1), -1},
		{box(highest, 0, 0, 0), -1},
		{box(0, lowest, 0, 0), -1},
		{box(highest, 0, highest, 0), -1},
		{box(highest, highest, 1, 1), -1},
		{box(lowest, lowest, highest, highest), 0},
		{box(lowest, lowest, lowest, lowest), 0},
		{box(lowest, lowest+2, lowest+511, lowest), 65532},
		{box(lowest, lowest, lowest+511, lowest+1), 65535},
		{box(lowest+2, lowest, lowest+2, lowest+4), 8},
	}
	for _, c := range cases {
		if got := impl.KeyOf(c.a); got != c.want {
			t.Errorf("KeyOf(%v) = %d, want %d", c.a, got, c.want)
		}
	}
}

func TestKeyOfEveryPoint(t *testing.T) {
	for d, p := range curveOf(impl.Side) {
		if got := impl.KeyOf(box(p.x, p.y, p.x, p.y)); got != d {
			t.Fatalf("KeyOf the point %v = %d, want %d", p, got, d)
		}
	}
}

func TestApart(t *testing.T) {
	cases := []struct{ a, b, want int }{
		{0, 0, 0},
		{7, 7, 0},
		{65535, 65535, 0},
		{0, 1, 1},
		{0, 2, 2},
		{1, 3, 2},
		{0, 8, 4},
		{4, 15, 5},
		{5, 3, 2},
		{0, 65535, 255},
		{0, 43690, 510},
		{21845, 65535, 510},
		{32767, 32768, 1},
		{16383, 49152, 255},
		{8, 65534, 254},
	}
	for _, c := range cases {
		if got := impl.Apart(c.a, c.b); got != c.want {
			t.Errorf("Apart(%d, %d) = %d, want %d", c.a, c.b, got, c.want)
		}
		if got := impl.Apart(c.b, c.a); got != c.want {
			t.Errorf("Apart(%d, %d) = %d, want %d", c.b, c.a, got, c.want)
		}
	}
}

// PointAt gives the point (0, 0) for a position that does not exist.
func TestApartOffTheCurve(t *testing.T) {
	for _, off := range offCurve() {
		for d, want := range map[int]int{0: 0, 1: 1, 8: 4, 43690: 510, 65535: 255} {
			if impl.Apart(off, d) != want || impl.Apart(d, off) != want {
				t.Errorf("Apart of %d and %d: %d, %d, want %d", off, d, impl.Apart(off, d), impl.Apart(d, off), want)
			}
		}
		for _, other := range offCurve() {
			if got := impl.Apart(off, other); got != 0 {
				t.Errorf("Apart(%d, %d) = %d", off, other, got)
			}
		}
	}
}

func TestApartAgreesWithPoints(t *testing.T) {
	l := curveOf(impl.Side)
	for a := 0; a < len(l); a += 211 {
		for b := 0; b < len(l); b += 307 {
			if got := impl.Apart(a, b); got != apart(l[a], l[b]) {
				t.Fatalf("Apart(%d, %d) = %d, want %d", a, b, got, apart(l[a], l[b]))
			}
		}
	}
}
