package tests

import (
	"math"
	"slices"
	"testing"

	"loop.example/g00492/impl"
)

// box writes a rectangle in the order of its fields: X0, Y0, X1, Y1.
func box(x0, y0, x1, y1 int) impl.Box {
	return impl.Box{X0: x0, Y0: y0, X1: x1, Y1: y1}
}

// smallBoxes returns every valid rectangle of the four by four points whose
// lowest coordinates are low.
func smallBoxes(low int) []impl.Box {
	var l []impl.Box
	for x0 := low; x0 < low+4; x0++ {
		for x1 := x0; x1 < low+4; x1++ {
			for y0 := low; y0 < low+4; y0++ {
				for y1 := y0; y1 < low+4; y1++ {
					l = append(l, box(x0, y0, x1, y1))
				}
			}
		}
	}
	return l
}

// pointsOf returns a's points among those from low to low+3, as a set of bits.
func pointsOf(a impl.Box, low int) (set uint) {
	for x := range 4 {
		for y := range 4 {
			if a.X0 <= low+x && low+x <= a.X1 && a.Y0 <= low+y && low+y <= a.Y1 {
				set |= 1 << (4*x + y)
			}
		}
	}
	return set
}

// oddBoxes returns every rectangle, nearly all of them invalid, whose
// coordinates are among the limits, their neighbours and the extreme integers.
func oddBoxes() []impl.Box {
	values := []int{math.MinInt, -1, 0, 3, 255, 256, math.MaxInt}
	var l []impl.Box
	for _, x0 := range values {
		for _, y0 := range values {
			for _, x1 := range values {
				for _, y1 := range values {
					l = append(l, box(x0, y0, x1, y1))
				}
			}
		}
	}
	return l
}

func TestBoxOk(t *testing.T) {
	valid := []impl.Box{
		{},
		box(1, 2, 3, 4),
		box(7, 7, 7, 7),
		box(0, 0, 255, 255),
		box(255, 255, 255, 255),
		box(0, 255, 0, 255),
		box(255, 0, 255, 0),
		box(9, 4, 9, 200),
	}
	for _, a := range valid {
		if !impl.BoxOk(a) {
			t.Errorf("BoxOk(%v) = false", a)
		}
	}
	invalid := []impl.Box{
		box(2, 0, 1, 0),
		box(0, 2, 0, 1),
		box(255, 0, 0, 0),
		box(0, 255, 0, 0),
		box(-1, 0, 0, 0),
		box(0, -1, 0, 0),
		box(0, 0, 256, 0),
		box(0, 0, 0, 256),
		box(0, 0, -1, 0),
		box(0, 0, 0, -1),
		box(256, 0, 256, 0),
		box(0, 256, 0, 256),
		box(256, 0, 255, 0),
		box(-2, -2, -1, -1),
		box(0, 0, math.MaxInt, 0),
		box(0, 0, 0, math.MaxInt),
		box(math.MinInt, 0, 0, 0),
		box(0, math.MinInt, 0, 0),
		box(math.MaxInt, 0, math.MinInt, 0),
		box(0, math.MaxInt, 0, math.MinInt),
		box(math.MinInt, math.MinInt, math.MaxInt, math.MaxInt),
	}
	for _, a := range invalid {
		if impl.BoxOk(a) {
			t.Errorf("BoxOk(%v) = true", a)
		}
	}
}

func TestArea(t *testing.T) {
	cases := []struct {
		a    impl.Box
		want int
	}{
		{impl.Box{}, 1},
		{box(7, 9, 7, 9), 1},
		{box(255, 255, 255, 255), 1},
		{box(1, 2, 3, 2), 3},
		{box(1, 2, 1, 5), 4},
		{box(3, 0, 9, 4), 35},
		{box(0, 0, 255, 0), 256},
		{box(0, 0, 0, 255), 256},
		{box(0, 0, 255, 255), 65536},
		{box(0, 0, 256, 0), 0},
		{box(0, 0, 0, 256), 0},
		{box(-1, 0, 0, 0), 0},
		{box(0, -1, 0, 0), 0},
		{box(2, 0, 1, 0), 0},
		{box(0, 2, 0, 1), 0},
		{box(4, 4, 1, 1), 0},
		{box(math.MinInt, 0, math.MaxInt, 0), 0},
		{box(math.MaxInt, 0, math.MinInt, 0), 0},
		{box(math.MinInt, math.MinInt, math.MaxInt, math.MaxInt), 0},
	}
	for _, c := range cases {
		if got := impl.Area(c.a); got != c.want {
			t.Errorf("Area(%v) = %d, want %d", c.a, got, c.want)
		}
	}
}

func TestJoin(t *testing.T) {
	cases := []struct{ a, b, want impl.Box }{
		{box(1, 2, 3, 2), box(3, 0, 9, 4), box(1, 0, 9, 4)},
		{box(5, 5, 6, 6), box(1, 1, 2, 2), box(1, 1, 6, 6)},
		{box(1, 8, 2, 9), box(8, 1, 9, 2), box(1, 1, 9, 9)},
		{box(1, 1, 4, 4), box(2, 2, 3, 3), box(1, 1, 4, 4)},
		{box(4, 4, 4, 4), box(4, 4, 4, 4), box(4, 4, 4, 4)},
		{box(1, 1, 2, 2), box(2, 2, 3, 3), box(1, 1, 3, 3)},
		{box(0, 0, 0, 0), box(255, 255, 255, 255), box(0, 0, 255, 255)},
		{box(5, 6, 1, 2), box(3, 4, 3, 4), box(3, 4, 3, 4)},
		{box(5, 6, 1, 2), box(7, 8, 0, 0), box(5, 6, 1, 2)},
		{box(-3, 0, 0, 300), box(0, -4, 400, 0), box(-3, -4, 400, 300)},
		{box(math.MinInt, 1, 2, math.MaxInt), box(1, math.MinInt, math.MaxInt, 2), box(math.MinInt, math.MinInt, math.MaxInt, math.MaxInt)},
		{box(math.MaxInt, math.MaxInt, math.MinInt, math.MinInt), box(1, 2, 3, 4), box(1, 2, 3, 4)},
	}
	for _, c := range cases {
		if got := impl.Join(c.a, c.b); got != c.want {
			t.Errorf("Join(%v, %v) = %v, want %v", c.a, c.b, got, c.want)
		}
		if got := impl.Join(c.b, c.a); got != c.want {
			t.Errorf("Join(%v, %v) = %v, want %v", c.b, c.a, got, c.want)
		}
	}
}

// Promise 2: the join of two rectangles contains both.
func TestJoinContainsBoth(t *testing.T) {
	for _, low := range []int{0, 100, 252} {
		for _, a := range smallBoxes(low) {
			for _, b := range smallBoxes(low) {
				j := impl.Join(a, b)
				both := pointsOf(a, low) | pointsOf(b, low)
				if !impl.BoxOk(j) || pointsOf(j, low)&both != both {
					t.Fatalf("Join(%v, %v) = %v", a, b, j)
				}
				if !impl.Holds(j, a) || !impl.Holds(j, b) {
					t.Fatalf("%v does not hold %v and %v", j, a, b)
				}
			}
		}
	}
}

// Promise 2, for rectangles that are not valid.
func TestJoinOfOddBoxesContainsBoth(t *testing.T) {
	l := oddBoxes()
	for _, a := range l {
		for _, b := range l {
			j := impl.Join(a, b)
			if j.X0 > a.X0 || j.X0 > b.X0 || j.Y0 > a.Y0 || j.Y0 > b.Y0 || j.X1 < a.X1 || j.X1 < b.X1 || j.Y1 < a.Y1 || j.Y1 < b.Y1 {
				t.Fatalf("Join(%v, %v) = %v", a, b, j)
			}
			if !impl.Holds(j, a) || !impl.Holds(j, b) {
				t.Fatalf("%v does not hold %v and %v", j, a, b)
			}
		}
	}
}

func TestJoinIsTheSmallest(t *testing.T) {
	l := smallBoxes(252)
	for _, a := range l {
		for _, b := range l {
			j := impl.Join(a, b)
			both := pointsOf(a, 252) | pointsOf(b, 252)
			for _, c := range l {
				if pointsOf(c, 252)&both == both && impl.Area(c) < impl.Area(j) {
					t.Fatalf("Join(%v, %v) = %v, but %v contains both", a, b, j, c)
				}
			}
		}
	}
}

func TestMeets(t *testing.T) {
	a := box(4, 4, 8, 6)
	cases := []struct {
		name string
		b    impl.Box
		want bool
	}{
		{"itself", a, true},
		{"inside", box(5, 5, 6, 5), true},
		{"around", box(0, 0, 255, 255), true},
		{"across", box(6, 0, 6, 9), true},
		{"overlap", box(6, 5, 12, 9), true},
		{"corner, lowest x and y", box(1, 1, 4, 4), true},
		{"corner, highest x and y", box(8, 6, 9, 9), true},
		{"corner, lowest x, highest y", box(1, 6, 4, 9), true},
		{"corner, highest x, lowest y", box(8, 1, 9, 4), true},
		{"point in a corner", box(8, 4, 8, 4), true},
		{"point inside", box(5, 5, 5, 5), true},
		{"edge of lowest x", box(1, 4, 4, 6), true},
		{"edge of highest x", box(8, 5, 9, 5), true},
		{"edge of lowest y", box(4, 0, 8, 4), true},
		{"edge of highest y", box(5, 6, 6, 9), true},
		{"neighbour at lower x", box(1, 4, 3, 6), false},
		{"neighbour at higher x", box(9, 4, 12, 6), false},
		{"neighbour at lower y", box(4, 1, 8, 3), false},
		{"neighbour at higher y", box(4, 7, 8, 9), false},
		{"diagonal neighbour, lower x and y", box(1, 1, 3, 3), false},
		{"diagonal neighbour, higher x and y", box(9, 7, 9, 9), false},
		{"diagonal neighbour, lower x, higher y", box(1, 7, 3, 9), false},
		{"diagonal neighbour, higher x, lower y", box(9, 1, 9, 3), false},
		{"far", box(200, 200, 255, 255), false},
	}
	for _, c := range cases {
		if impl.Meets(a, c.b) != c.want || impl.Meets(c.b, a) != c.want {
			t.Errorf("%s: Meets(%v, %v) = %v, %v", c.name, a, c.b, impl.Meets(a, c.b), impl.Meets(c.b, a))
		}
	}
}

func TestMeetsAtTheLimits(t *testing.T) {
	all := box(0, 0, 255, 255)
	for _, x := range []int{0, 255} {
		for _, y := range []int{0, 255} {
			p := box(x, y, x, y)
			if !impl.Meets(p, p) || !impl.Meets(p, all) || !impl.Meets(all, p) {
				t.Errorf("%v does not meet itself and %v", p, all)
			}
			if impl.Meets(p, box(1, 1, 254, 254)) {
				t.Errorf("%v meets the inner rectangle", p)
			}
		}
	}
}

func TestMeetsRejectsInvalidBoxes(t *testing.T) {
	all := box(0, 0, 255, 255)
	for _, b := range oddBoxes() {
		ok := impl.BoxOk(b)
		if impl.Meets(all, b) != ok || impl.Meets(b, all) != ok || impl.Meets(b, b) != ok {
			t.Errorf("Meets with %v, whose BoxOk is %v", b, ok)
		}
	}
	for _, b := range []impl.Box{box(3, 3, 2, 2), box(5, 0, 2, 9), box(0, 5, 9, 2), box(0, 0, 256, 9), box(0, 0, 9, 256), box(-1, 0, 9, 9), box(0, -1, 9, 9)} {
		a := box(1, 2, 4, 4)
		if impl.Meets(a, b) || impl.Meets(b, a) {
			t.Errorf("%v meets the invalid %v", a, b)
		}
	}
}

// The sets of points of all small rectangles decide what the functions return.
func TestMeetsHoldsAndGrowthAgreeWithPoints(t *testing.T) {
	for _, low := range []int{0, 252} {
		for _, a := range smallBoxes(low) {
			for _, b := range smallBoxes(low) {
				p, q := pointsOf(a, low), pointsOf(b, low)
				if got := impl.Meets(a, b); got != (p&q != 0) {
					t.Fatalf("Meets(%v, %v) = %v", a, b, got)
				}
				if got := impl.Holds(a, b); got != (p&q == q) {
					t.Fatalf("Holds(%v, %v) = %v", a, b, got)
				}
				if got := impl.Growth(a, b); (got == 0) != (p&q == q) || got < 0 {
					t.Fatalf("Growth(%v, %v) = %d", a, b, got)
				}
			}
		}
	}
}

func TestHolds(t *testing.T) {
	a := box(4, 4, 8, 6)
	cases := []struct {
		b    impl.Box
		want bool
	}{
		{a, true},
		{box(5, 5, 5, 5), true},
		{box(4, 4, 4, 4), true},
		{box(8, 6, 8, 6), true},
		{box(4, 6, 8, 6), true},
		{box(3, 4, 8, 6), false},
		{box(4, 3, 8, 6), false},
		{box(4, 4, 9, 6), false},
		{box(4, 4, 8, 7), false},
		{box(8, 6, 9, 7), false},
		{box(0, 0, 255, 255), false},
		{box(20, 20, 21, 21), false},
	}
	for _, c := range cases {
		if got := impl.Holds(a, c.b); got != c.want {
			t.Errorf("Holds(%v, %v) = %v", a, c.b, got)
		}
	}
}

// Holds does not check validity: the document defines it by Join alone.
func TestHoldsOfInvalidBoxes(t *testing.T) {
	lowest, highest := math.MinInt, math.MaxInt
	cases := []struct {
		a, b impl.Box
		want bool
	}{
		{box(-1, -1, 256, 256), box(0, 0, 255, 255), true},
		{box(0, 0, 255, 255), box(-1, 0, 255, 255), false},
		{box(0, 0, 255, 255), box(0, 0, 255, 256), false},
		{box(0, 0, 5, 5), box(4, 4, 3, 3), true},
		{box(0, 0, 5, 5), box(9, 9, 2, 2), true},
		{box(4, 4, 3, 3), box(4, 4, 3, 3), true},
		{box(4, 4, 3, 3), box(4, 4, 4, 4), false},
		{box(lowest, lowest, highest, highest), box(0, 0, 255, 255), true},
		{box(0, 0, 255, 255), box(highest, highest, lowest, lowest), true},
		{box(0, 0, 255, 255), box(lowest, 0, 0, 0), false},
		{box(0, 0, 255, 255), box(0, 0, 0, highest), false},
	}
	for _, c := range cases {
		if got := impl.Holds(c.a, c.b); got != c.want {
			t.Errorf("Holds(%v, %v) = %v", c.a, c.b, got)
		}
	}
}

func TestGrowth(t *testing.T) {
	a := box(1, 2, 3, 2)
	b := box(3, 0, 9, 4)
	lowest, highest := math.MinInt, math.MaxInt
	cases := []struct {
		a, b impl.Box
		want int
	}{
		{a, b, 42},
		{b, a, 10},
		{a, a, 0},
		{b, box(3, 4, 3, 4), 0},
		{box(1, 1, 2, 2), box(2, 2, 3, 3), 5},
		{box(1, 1, 2, 2), box(3, 1, 3, 2), 2},
		{impl.Box{}, box(255, 255, 255, 255), 65535},
		{box(2, 0, 1, 0), box(1, 0, 2, 0), 2},
		{box(2, 0, 1, 0), box(2, 0, 1, 0), 0},
		{a, box(0, 0, 256, 0), -3},
		{b, box(-1, 0, 0, 0), -35},
		{box(0, 0, 255, 255), box(0, 0, 0, 256), -65536},
		{a, box(lowest, lowest, highest, highest), -3},
		{box(lowest, lowest, highest, highest), a, 0},
		{box(highest, highest, lowest, lowest), a, 3},
		{a, box(highest, highest, lowest, lowest), 0},
	}
	for _, c := range cases {
		if got := impl.Growth(c.a, c.b); got != c.want {
			t.Errorf("Growth(%v, %v) = %d, want %d", c.a, c.b, got, c.want)
		}
	}
}

func TestJoinAll(t *testing.T) {
	a := box(5, 6, 7, 8)
	b := box(9, 2, 9, 3)
	c := box(6, 200, 6, 255)
	cases := []struct {
		l    []impl.Box
		want impl.Box
	}{
		{nil, impl.Box{}},
		{[]impl.Box{}, impl.Box{}},
		{[]impl.Box{a}, a},
		{[]impl.Box{a, a}, a},
		{[]impl.Box{a, b}, box(5, 2, 9, 8)},
		{[]impl.Box{b, a}, box(5, 2, 9, 8)},
		{[]impl.Box{a, b, c}, box(5, 2, 9, 255)},
		{[]impl.Box{c, b, a}, box(5, 2, 9, 255)},
		{[]impl.Box{a, {}}, box(0, 0, 7, 8)},
		{[]impl.Box{box(9, 9, 1, 1)}, box(9, 9, 1, 1)},
		{[]impl.Box{box(-5, -5, -4, -4)}, box(-5, -5, -4, -4)},
		{[]impl.Box{box(9, 9, 1, 1), box(7, 6, 5, 4)}, box(7, 6, 5, 4)},
		{[]impl.Box{a, box(math.MinInt, 0, math.MaxInt, 0)}, box(math.MinInt, 0, math.MaxInt, 8)},
	}
	for _, c := range cases {
		if got := impl.JoinAll(c.l); got != c.want {
			t.Errorf("JoinAll(%v) = %v, want %v", c.l, got, c.want)
		}
	}
}

func TestJoinAllReadsTheElementsOnly(t *testing.T) {
	l := []impl.Box{box(9, 9, 9, 9), box(4, 5, 6, 7), box(1, 2, 3, 4), box(0, 0, 255, 255)}
	before := slices.Clone(l)
	if got := impl.JoinAll(l[1:3]); got != box(1, 2, 6, 7) {
		t.Errorf("JoinAll of a part: %v", got)
	}
	if got := impl.JoinAll(l[:0]); got != (impl.Box{}) {
		t.Errorf("JoinAll of an empty part: %v", got)
	}
	if !slices.Equal(l, before) {
		t.Errorf("JoinAll modified its argument: %v", l)
	}
}

// Promise 2, for lists: the join of all contains each.
func TestJoinAllContainsEach(t *testing.T) {
	all := append(smallBoxes(60), oddBoxes()...)
	for n := 1; n < len(all); n += 97 {
		for from := 0; from+n <= len(all); from += 131 {
			j := impl.JoinAll(all[from : from+n])
			for _, a := range all[from : from+n] {
				if !impl.Holds(j, a) {
					t.Fatalf("%v does not hold %v", j, a)
				}
			}
		}
	}
}
