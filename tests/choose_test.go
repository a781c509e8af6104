package tests

import (
	"math"
	"math/bits"
	"slices"
	"testing"

	"loop.example/g00492/impl"
)

// boxes returns entries with these rectangles.
func boxes(l ...impl.Box) []impl.Entry {
	var out []impl.Entry
	for i, a := range l {
		out = append(out, impl.Entry{N: i + 1, R: a})
	}
	return out
}

// areaOf is the tests' own Area.
func areaOf(a impl.Box) int {
	if !validBox(a) {
		return 0
	}
	return (a.X1 - a.X0 + 1) * (a.Y1 - a.Y0 + 1)
}

// joinOf is the tests' own Join.
func joinOf(a, b impl.Box) impl.Box {
	return boundOf(boxes(a, b))
}

// growthOf is the tests' own Growth.
func growthOf(a, b impl.Box) int {
	return areaOf(joinOf(a, b)) - areaOf(a)
}

// wasteOf is the tests' own Waste.
func wasteOf(a, b impl.Box) int {
	return areaOf(joinOf(a, b)) - areaOf(a) - areaOf(b)
}

// pullOf is the tests' own Pull.
func pullOf(a, b, r impl.Box) int {
	return growthOf(a, r) - growthOf(b, r)
}

// chosenFor is the tests' own Choose: it keeps the candidates that are left
// after each of its rules.
func chosenFor(l []impl.Entry, r impl.Box) int {
	left := make([]int, len(l))
	for i := range left {
		left[i] = i
	}
	for _, size := range []func(i int) int{
		func(i int) int { return growthOf(l[i].R, r) },
		func(i int) int { return areaOf(l[i].R) },
		func(i int) int { return i },
	} {
		least := math.MaxInt
		for _, i := range left {
			least = min(least, size(i))
		}
		left = slices.DeleteFunc(left, func(i int) bool { return size(i) > least })
	}
	if len(left) == 0 {
		return -1
	}
	return left[0]
}

// seedsOf is the tests' own Seeds: it goes from the last pair to the first.
func seedsOf(l []impl.Entry) (first, second int) {
	most := math.MinInt
	for i := len(l) - 2; i >= 0; i-- {
		for k := len(l) - 1; k > i; k-- {
			if waste := wasteOf(l[i].R, l[k].R); waste >= most {
				first, second, most = i, k, waste
			}
		}
	}
	return first, second
}

// nextOf is the tests' own NextOf: it goes from the last entry to the first.
func nextOf(l []impl.Entry, a, b impl.Box) int {
	at, most := -1, 0
	for i, e := range slices.Backward(l) {
		pull := pullOf(a, b, e.R)
		if size := max(pull, -pull); size >= most {
			at, most = i, size
		}
	}
	return at
}

// checkChoose checks promise 9 before the rules for equal growth.
func checkChoose(t *testing.T, l []impl.Entry, r impl.Box) {
	t.Helper()
	got := impl.Choose(l, r)
	if len(l) > 0 && (got < 0 || got >= len(l)) {
		t.Fatalf("Choose(%v, %v) = %d", l, r, got)
	}
	for i, e := range l {
		if growthOf(e.R, r) < growthOf(l[got].R, r) {
			t.Fatalf("Choose(%v, %v) = %d, but the entry %d grows less", l, r, got, i)
		}
	}
	if want := chosenFor(l, r); got != want {
		t.Fatalf("Choose(%v, %v) = %d, want %d", l, r, got, want)
	}
}

// checkSeeds checks that no pair has a larger waste than the seeds, before the
// rule for equal waste.
func checkSeeds(t *testing.T, l []impl.Entry) {
	t.Helper()
	i, k := impl.Seeds(l)
	if len(l) >= 2 && (i < 0 || i >= k || k >= len(l)) {
		t.Fatalf("Seeds(%v) = %d, %d", l, i, k)
	}
	for m := range l {
		for n := range m {
			if wasteOf(l[n].R, l[m].R) > wasteOf(l[i].R, l[k].R) {
				t.Fatalf("Seeds(%v) = %d, %d, but %d and %d have a larger waste", l, i, k, n, m)
			}
		}
	}
	if first, second := seedsOf(l); i != first || k != second {
		t.Fatalf("Seeds(%v) = %d, %d, want %d, %d", l, i, k, first, second)
	}
}

// checkNext checks that no entry is pulled more than the next one, before the
// rule for equal pulls.
func checkNext(t *testing.T, l []impl.Entry, a, b impl.Box) {
	t.Helper()
	got := impl.NextOf(l, a, b)
	if len(l) > 0 && (got < 0 || got >= len(l)) {
		t.Fatalf("NextOf(%v, %v, %v) = %d", l, a, b, got)
	}
	for i, e := range l {
		most, pull := pullOf(a, b, l[got].R), pullOf(a, b, e.R)
		if max(pull, -pull) > max(most, -most) {
			t.Fatalf("NextOf(%v, %v, %v) = %d, but the entry %d is pulled more", l, a, b, got, i)
		}
	}
	if want := nextOf(l, a, b); got != want {
		t.Fatalf("NextOf(%v, %v, %v) = %d, want %d", l, a, b, got, want)
	}
}

// drawnEntries returns entries with rectangles that draw returns, among them
// some that are there twice.
func drawnEntries(next func(n int) int, count int, draw func(next func(n int) int) impl.Box) []impl.Entry {
	var l []impl.Entry
	for range count {
		r := draw(next)
		if len(l) > 0 && next(6) == 0 {
			r = l[next(len(l))].R
		}
		l = append(l, impl.Entry{N: 1 + next(999), R: r})
	}
	return l
}

// nearBox draws one of few rectangles, so that many sizes are equal.
func nearBox(next func(n int) int) impl.Box {
	x, y := 100+next(5), 100+next(5)
	return box(x, y, x+next(3), y+next(3))
}

// oddBox draws a rectangle that is probably invalid.
func oddBox(next func(n int) int) impl.Box {
	if next(3) == 0 {
		return scatteredBox(next)
	}
	values := []int{math.MinInt, math.MinInt + 1, -1 << 62, -1 << 32, -1, 0, 1, 3, 254, 255, 256, 1 << 32, 1 << 62, math.MaxInt - 1, math.MaxInt}
	some := func() int { return values[next(len(values))] }
	return box(some(), some(), some(), some())
}

func drawsOfBoxes() []func(next func(n int) int) impl.Box {
	return []func(next func(n int) int) impl.Box{scatteredBox, nearBox, oddBox}
}

// Promise 9: the chosen entry grows no more than any other one. Among drawn
// entries, both rules for equal growth are needed.
func TestTheChosenEntryGrowsNoMore(t *testing.T) {
	next := numbers(90)
	byArea, byIndex := 0, 0
	for _, draw := range drawsOfBoxes() {
		for range 8000 {
			l, r := drawnEntries(next, next(9), draw), draw(next)
			checkChoose(t, l, r)
			at := impl.Choose(l, r)
			for i, e := range l {
				if i == at || growthOf(e.R, r) != growthOf(l[at].R, r) {
					continue
				}
				if areaOf(e.R) > areaOf(l[at].R) {
					byArea++
				} else {
					byIndex++
				}
			}
		}
	}
	if byArea < 1000 || byIndex < 1000 {
		t.Errorf("only %d entries grow equally but are larger, and %d are equally large", byArea, byIndex)
	}
}

// Promise 9, for the seeds: no pair has a larger waste.
func TestNoPairHasALargerWasteThanTheSeeds(t *testing.T) {
	next := numbers(91)
	equal, negative := 0, 0
	for _, draw := range drawsOfBoxes() {
		for range 5000 {
			l := drawnEntries(next, next(9), draw)
			checkSeeds(t, l)
			i, k := impl.Seeds(l)
			for m := range l {
				for n := range m {
					if (n != i || m != k) && wasteOf(l[n].R, l[m].R) == wasteOf(l[i].R, l[k].R) {
						equal++
					}
				}
			}
			if i < k && wasteOf(l[i].R, l[k].R) < 0 {
				negative++
			}
		}
	}
	if equal < 1000 || negative < 300 {
		t.Errorf("only %d pairs have the waste of the seeds, and %d seeds have a negative one", equal, negative)
	}
}

func TestNoEntryIsPulledMoreThanTheNext(t *testing.T) {
	next := numbers(92)
	same, opposite := 0, 0
	for _, draw := range drawsOfBoxes() {
		for range 8000 {
			l, a, b := drawnEntries(next, next(9), draw), draw(next), draw(next)
			checkNext(t, l, a, b)
			at := impl.NextOf(l, a, b)
			for i, e := range l {
				switch pull := pullOf(a, b, e.R); {
				case i == at || pull == 0:
				case pull == pullOf(a, b, l[at].R):
					same++
				case pull == -pullOf(a, b, l[at].R):
					opposite++
				}
			}
		}
	}
	if same < 1000 || opposite < 200 {
		t.Errorf("only %d pulls are the largest, too, and %d with the other sign", same, opposite)
	}
}

// fewBoxes returns rectangles of which many grow equally, are equally large or
// hold one another.
func fewBoxes() []impl.Box {
	return []impl.Box{
		box(0, 0, 1, 0),
		box(1, 0, 2, 0),
		box(0, 0, 0, 1),
		box(0, 0, 2, 1),
		box(2, 1, 2, 1),
		box(2, 0, 1, 0),
	}
}

// eachListOfBoxes calls check with every list of up to size entries with
// rectangles of fewBoxes.
func eachListOfBoxes(size int, check func(l []impl.Entry)) {
	var extend func(l []impl.Box)
	extend = func(l []impl.Box) {
		check(boxes(l...))
		if len(l) == size {
			return
		}
		for _, a := range fewBoxes() {
			extend(append(slices.Clone(l), a))
		}
	}
	extend(nil)
}

func TestEveryShortListOfBoxes(t *testing.T) {
	eachListOfBoxes(4, func(l []impl.Entry) {
		checkSeeds(t, l)
		for _, a := range fewBoxes() {
			checkChoose(t, l, a)
			for _, b := range fewBoxes() {
				checkNext(t, l, a, b)
			}
		}
	})
	eachListOfBoxes(5, func(l []impl.Entry) { checkSeeds(t, l) })
}

func TestChoose(t *testing.T) {
	point, all := box(5, 5, 5, 5), everything
	invalid := box(2, 0, 1, 0)
	lowest, highest := math.MinInt, math.MaxInt
	cases := []struct {
		name string
		l    []impl.Entry
		r    impl.Box
		want int
	}{
		{"nil", nil, point, -1},
		{"empty", []impl.Entry{}, point, -1},
		{"empty, with entries beyond the length", boxes(point, all)[:0], point, -1},
		{"one, far away", boxes(box(200, 200, 255, 255)), point, 0},
		{"one, invalid", boxes(invalid), point, 0},
		{"two, the first grows less", boxes(box(5, 4, 5, 4), box(5, 7, 5, 7)), point, 0},
		{"two, the second grows less", boxes(box(5, 7, 5, 7), box(5, 4, 5, 4)), point, 1},
		{"growth by one more", boxes(box(0, 0, 0, 99), box(0, 0, 98, 0)), box(0, 0, 1, 99), 0},
		{"the last grows least", boxes(all, box(0, 0, 3, 3), box(9, 9, 9, 9), box(5, 4, 5, 4), point), box(4, 5, 6, 5), 0},
		{"less growth, though a larger area", boxes(box(7, 5, 7, 5), box(0, 0, 100, 4)), box(0, 5, 3, 5), 0},
		{"less growth, though the largest area", boxes(box(6, 5, 6, 5), all, box(5, 6, 5, 6)), point, 1},
		{"equal growth, the first is smaller", boxes(box(1, 0, 1, 0), box(3, 0, 4, 0)), box(2, 0, 2, 0), 0},
		{"equal growth, the second is smaller", boxes(box(3, 0, 4, 0), box(1, 0, 1, 0)), box(2, 0, 2, 0), 1},
		{"equal growth, the last is smallest", boxes(box(0, 0, 9, 9), box(0, 0, 9, 8), box(5, 5, 9, 9), point), point, 3},
		{"equal growth, the middle is smallest", boxes(box(0, 0, 9, 9), box(5, 5, 6, 6), box(5, 5, 9, 9)), point, 1},
		{"equal growth and equal areas", boxes(box(1, 0, 1, 0), box(3, 0, 3, 0)), box(2, 0, 2, 0), 0},
		{"equal growth and equal areas, after a larger one", boxes(box(3, 0, 4, 0), box(1, 0, 1, 0), box(3, 0, 3, 0)), box(2, 0, 2, 0), 1},
		{"equal growth and equal areas of other shapes", boxes(box(5, 5, 10, 5), box(5, 5, 6, 7)), point, 0},
		{"an entry twice", boxes(all, point, point), point, 1},
		{"all hold it, the smallest is the second", boxes(all, box(4, 4, 6, 6), box(4, 4, 6, 7)), point, 1},
		{"one holds it, on its edge", boxes(box(0, 0, 3, 5), box(5, 0, 6, 9), box(6, 5, 7, 5)), point, 1},
		{"one is equal", boxes(box(4, 4, 6, 6), point), point, 1},
		{"one would not grow, but not hold it", boxes(box(7, 7, 9, 9), box(2, 0, 1, 0), all), box(2, 0, 1, 0), 1},
		{"one beyond the length", boxes(box(9, 9, 9, 9), point)[:1], point, 0},
		{"an invalid entry has no area, so it grows by all of the join", boxes(box(6, 5, 4, 5), point), point, 1},
		{"an invalid entry grows less", boxes(box(3, 5, 3, 5), box(6, 5, 4, 5)), point, 1},
		{"an invalid entry and one that grows as much", boxes(box(4, 5, 4, 5), box(6, 5, 4, 5)), point, 1},
		{"the join is invalid, so the largest entry grows least", boxes(point, all, box(0, 0, 9, 9)), box(0, 0, 256, 0), 1},
		{"the join is invalid with all", boxes(point, box(6, 6, 6, 6), box(0, 0, 9, 9), box(9, 0, 0, 9)), box(-1, 0, 0, 0), 2},
		{"equal negative growth", boxes(point, box(0, 0, 1, 1), box(6, 6, 7, 7)), box(lowest, lowest, highest, highest), 1},
		{"an inverted rectangle is held by every entry", boxes(all, box(0, 0, 9, 9), point), box(highest, highest, lowest, lowest), 2},
		{"all entries are invalid", boxes(box(0, 0, 256, 0), box(lowest, 0, 0, 0), box(0, 0, 0, highest)), point, 0},
		{"extreme entries, and one that grows", boxes(box(5, 5, 5, 6), box(lowest, lowest, highest, highest)), box(5, 5, 6, 6), 1},
		{"2^62 by 2 is -2^63, but the area is 0", boxes(box(5, 5, 6, 6), box(4, 0, 3, 0)), box(0, 0, 1<<62-1, 1), 0},
		{"2^32 by 2^32 is 0, and more points are, too", boxes(box(1, 1, 1<<32, 1<<32), box(0, 0, 1<<32-1, 1<<32-1)), box(0, 0, 1<<32-1, 1<<32-1), 0},
	}
	for _, c := range cases {
		if got := impl.Choose(c.l, c.r); got != c.want {
			t.Errorf("%s: Choose(%v, %v) = %d, want %d", c.name, c.l, c.r, got, c.want)
		}
		if own := chosenFor(c.l, c.r); own != c.want {
			t.Errorf("%s: the tests choose %d, want %d", c.name, own, c.want)
		}
	}
}

func TestWaste(t *testing.T) {
	point, all := box(5, 5, 5, 5), everything
	lowest, highest := math.MinInt, math.MaxInt
	cases := []struct {
		name string
		a, b impl.Box
		want int
	}{
		{"a gap", box(0, 0, 9, 0), box(20, 0, 29, 0), 10},
		{"side by side", box(0, 0, 9, 3), box(10, 0, 29, 3), 0},
		{"a common point", box(0, 0, 1, 0), box(1, 0, 2, 0), -1},
		{"a common part", box(20, 0, 24, 0), box(21, 0, 25, 0), -4},
		{"diagonal neighbours", box(0, 0, 0, 0), box(1, 1, 1, 1), 2},
		{"across", box(0, 4, 9, 4), box(4, 0, 4, 9), 80},
		{"itself", box(1, 1, 4, 3), box(1, 1, 4, 3), -12},
		{"one holds the other", box(0, 0, 9, 9), point, -1},
		{"the largest, twice", all, all, -65536},
		{"opposite corners", box(0, 0, 0, 0), box(255, 255, 255, 255), 65534},
		{"the zero Box", impl.Box{}, impl.Box{}, -1},
		{"an invalid one within", point, box(6, 6, 4, 4), 0},
		{"an invalid one, whose join is valid", point, box(7, 5, 6, 5), 1},
		{"both invalid, the join is valid", box(2, 0, 1, 0), box(1, 9, 4, 8), 36},
		{"both invalid, twice the same", box(2, 0, 1, 0), box(2, 0, 1, 0), 0},
		{"an invalid join", point, box(0, 0, 256, 0), -1},
		{"an invalid join with the largest", all, box(0, -1, 0, 0), -65536},
		{"extreme", all, box(lowest, lowest, highest, highest), -65536},
		{"extreme and inverted", box(highest, highest, lowest, lowest), box(1, 1, 2, 2), 0},
		{"2^62 by 2 points", box(0, 0, 1<<62-1, 1), point, -1},
		{"both extreme", box(lowest, 0, -1, 0), box(0, 0, highest, 0), 0},
	}
	for _, c := range cases {
		for _, pair := range [][2]impl.Box{{c.a, c.b}, {c.b, c.a}} {
			if got := impl.Waste(pair[0], pair[1]); got != c.want {
				t.Errorf("%s: Waste(%v, %v) = %d, want %d", c.name, pair[0], pair[1], got, c.want)
			}
		}
	}
}

// holder returns the points of the smallest rectangle with these points of the
// grid that starts at low.
func holder(set uint, low int) uint {
	best := uint(1<<16 - 1)
	for _, c := range smallBoxes(low) {
		p := pointsOf(c, low)
		if p&set == set && bits.OnesCount(p) < bits.OnesCount(best) {
			best = p
		}
	}
	return best
}

// The sets of points of all small rectangles decide what the functions return.
func TestWasteAndPullAgreeWithPoints(t *testing.T) {
	for _, low := range []int{0, 252} {
		l := smallBoxes(low)
		points := make([]int, len(l))
		joined := make([][]int, len(l))
		for i, a := range l {
			points[i] = bits.OnesCount(pointsOf(a, low))
			for _, b := range l {
				joined[i] = append(joined[i], bits.OnesCount(holder(pointsOf(a, low)|pointsOf(b, low), low)))
			}
		}
		for i, a := range l {
			for k, b := range l {
				if got, want := impl.Waste(a, b), joined[i][k]-points[i]-points[k]; got != want {
					t.Fatalf("Waste(%v, %v) = %d, want %d", a, b, got, want)
				}
				for m := (i + k) % 7; m < len(l); m += 7 {
					want := joined[i][m] - points[i] - joined[k][m] + points[k]
					if got := impl.Pull(a, b, l[m]); got != want {
						t.Fatalf("Pull(%v, %v, %v) = %d, want %d", a, b, l[m], got, want)
					}
				}
			}
		}
	}
}

func TestWasteAndPullOfOddBoxes(t *testing.T) {
	next := numbers(93)
	for range 100000 {
		a, b, r := oddBox(next), oddBox(next), oddBox(next)
		if got, want := impl.Waste(a, b), wasteOf(a, b); got != want {
			t.Fatalf("Waste(%v, %v) = %d, want %d", a, b, got, want)
		}
		if got, want := impl.Pull(a, b, r), pullOf(a, b, r); got != want {
			t.Fatalf("Pull(%v, %v, %v) = %d, want %d", a, b, r, got, want)
		}
	}
}

func TestSeeds(t *testing.T) {
	low, high, middle := box(0, 0, 0, 0), box(255, 255, 255, 255), box(128, 128, 128, 128)
	invalid, extreme := box(2, 0, 1, 0), box(math.MinInt, 0, 0, math.MaxInt)
	large := box(0, 0, 9, 9)
	cases := []struct {
		name          string
		l             []impl.Entry
		first, second int
	}{
		{"nil", nil, 0, 0},
		{"empty", []impl.Entry{}, 0, 0},
		{"empty, with entries beyond the length", boxes(low, high)[:0], 0, 0},
		{"one", boxes(high), 0, 0},
		{"one, invalid", boxes(extreme), 0, 0},
		{"one, with another beyond the length", boxes(low, high)[:1], 0, 0},
		{"two", boxes(low, high), 0, 1},
		{"two, with more beyond the length", boxes(middle, high, low, high)[:2], 0, 1},
		{"two, the same", boxes(low, low), 0, 1},
		{"two, one in the other", boxes(large, low), 0, 1},
		{"two, both the largest", boxes(everything, everything), 0, 1},
		{"the last pair", boxes(middle, low, high), 1, 2},
		{"the first and the last", boxes(low, middle, high), 0, 2},
		{"the first pair", boxes(low, high, middle), 0, 1},
		{"the second and the last of four", boxes(middle, high, middle, low), 1, 3},
		{"all pairs are equal", boxes(low, low, low, low), 0, 1},
		{"all pairs are equal, the largest", boxes(everything, everything, everything), 0, 1},
		{"equal waste, another second", boxes(low, middle, high, high), 0, 2},
		{"equal waste, another first", boxes(low, middle, low, high), 0, 3},
		{"equal waste, an earlier first and a later second", boxes(low, high, low, high), 0, 1},
		{"equal waste, a smaller second with a larger first", boxes(low, middle, box(1, 0, 1, 0), box(128, 129, 128, 129)), 0, 3},
		{"equal waste in two directions", boxes(box(9, 9, 9, 9), box(9, 5, 9, 5), box(5, 9, 5, 9), box(13, 9, 13, 9), box(9, 13, 9, 13)), 1, 2},
		{"negative for every pair", boxes(large, box(1, 1, 9, 9), box(0, 0, 9, 8)), 1, 2},
		{"negative for every pair, the first is the least negative", boxes(box(1, 1, 2, 2), box(1, 1, 1, 1), large), 0, 1},
		{"negative for every pair, the last is the least negative", boxes(everything, large, low), 0, 2},
		{"negative for every pair, twice the same", boxes(large, box(3, 3, 4, 4), box(3, 3, 4, 4)), 0, 1},
		{"zero before negative", boxes(large, large, box(10, 0, 10, 9)), 0, 2},
		{"a gap before a larger join", boxes(everything, box(1, 0, 1, 0), box(3, 0, 3, 0)), 1, 2},
		{"an invalid one, held by another", boxes(large, large, invalid, invalid), 0, 2},
		{"an invalid one, not held by another", boxes(large, low, invalid, invalid), 1, 2},
		{"an invalid join", boxes(low, extreme, box(1, 0, 1, 0)), 0, 2},
		{"an invalid one far away", boxes(low, middle, box(255, 255, 254, 255)), 0, 2},
		{"all are extreme", boxes(extreme, extreme, box(math.MaxInt, math.MaxInt, math.MinInt, math.MinInt)), 0, 1},
		{"2^62 by 2 points and -2^62 by 2", boxes(box(0, 0, 1<<62-1, 1), box(-1<<62, 0, -1, 1), low, box(2, 0, 2, 0)), 2, 3},
	}
	for _, c := range cases {
		if i, k := impl.Seeds(c.l); i != c.first || k != c.second {
			t.Errorf("%s: Seeds(%v) = %d, %d, want %d, %d", c.name, c.l, i, k, c.first, c.second)
		}
		if i, k := seedsOf(c.l); i != c.first || k != c.second {
			t.Errorf("%s: the tests' seeds are %d, %d, want %d, %d", c.name, i, k, c.first, c.second)
		}
	}
}

func TestPull(t *testing.T) {
	a, b := box(0, 0, 9, 0), box(21, 0, 25, 0)
	lowest, highest := math.MinInt, math.MaxInt
	cases := []struct {
		name    string
		a, b, r impl.Box
		want    int
	}{
		{"nearer to the first", a, b, box(11, 0, 11, 0), -8},
		{"nearer to the second", a, b, box(19, 0, 20, 0), 9},
		{"as near to both", a, b, box(15, 0, 15, 0), 0},
		{"in the first", a, b, box(3, 0, 4, 0), -18},
		{"in the second", a, b, box(22, 0, 23, 0), 14},
		{"in neither, and far", a, b, box(0, 0, 0, 1), 10 - 47},
		{"twice the same", a, a, box(30, 30, 31, 31), 0},
		{"in both", box(0, 0, 9, 9), box(5, 5, 6, 6), box(5, 6, 5, 6), 0},
		{"the largest pull", box(0, 0, 0, 0), everything, box(255, 255, 255, 255), 65535},
		{"the largest pull of valid joins by an invalid rectangle", box(2, 0, 1, 0), everything, everything, 65536},
		{"the largest pull of all", box(1, 0, 0, 0), everything, box(0, 256, 255, 255), 65536},
		{"an invalid join with both", a, b, box(0, 0, 256, 0), -5},
		{"an invalid join with the largest", everything, a, box(-1, 0, 0, 0), -65536 + 10},
		{"an invalid join with a point and with the largest", box(7, 7, 7, 7), everything, box(lowest, lowest, highest, highest), 65535},
		{"the first is invalid", box(1, 0, 0, 0), box(0, 0, 0, 0), box(0, 0, 1, 0), 1},
		{"the second is invalid", box(0, 0, 0, 0), box(1, 0, 0, 0), box(0, 0, 1, 0), -1},
		{"an extreme first", box(lowest, lowest, highest, highest), a, box(0, 0, 10, 0), -1},
		{"all are extreme", box(lowest, 0, 0, 0), box(0, 0, highest, 0), box(lowest, lowest, highest, highest), 0},
		{"an inverted rectangle", a, b, box(highest, highest, lowest, lowest), 0},
		{"2^62 by 2 is -2^63, but the area is 0", box(1, 0, 0, 0), box(0, 0, 1<<62-1, 1), box(0, 0, 1<<62-1, 1), 0},
		{"2^32 by 2^32 is 0, and the area, too", a, b, box(0, 0, 1<<32-1, 1<<32-1), -5},
	}
	for _, c := range cases {
		if got := impl.Pull(c.a, c.b, c.r); got != c.want {
			t.Errorf("%s: Pull(%v, %v, %v) = %d, want %d", c.name, c.a, c.b, c.r, got, c.want)
		}
		if got := impl.Pull(c.b, c.a, c.r); got != -c.want {
			t.Errorf("%s: Pull(%v, %v, %v) = %d, want %d", c.name, c.b, c.a, c.r, got, -c.want)
		}
	}
}

func TestNextOf(t *testing.T) {
	// A point at x between them is pulled by 2*x - 30.
	a, b := box(0, 0, 9, 0), box(21, 0, 29, 0)
	at := func(l ...int) []impl.Entry {
		var out []impl.Box
		for _, x := range l {
			out = append(out, box(x, 0, x, 0))
		}
		return boxes(out...)
	}
	lowest, highest := math.MinInt, math.MaxInt
	cases := []struct {
		name string
		l    []impl.Entry
		a, b impl.Box
		want int
	}{
		{"nil", nil, a, b, -1},
		{"empty", []impl.Entry{}, a, b, -1},
		{"empty, with entries beyond the length", at(11, 12)[:0], a, b, -1},
		{"one", at(11), a, b, 0},
		{"one that is not pulled", at(15), a, b, 0},
		{"one that is invalid", boxes(box(lowest, highest, 0, 1)), a, b, 0},
		{"two, the first is pulled more", at(11, 12), a, b, 0},
		{"two, the second is pulled more", at(12, 11), a, b, 1},
		{"to the second more than to the first", at(12, 19), a, b, 1},
		{"to the first more than to the second", at(18, 11), a, b, 1},
		{"the least number is not the largest pull", at(14, 13, 20, 12), a, b, 2},
		{"the largest number is not the largest pull", at(16, 17, 10, 18), a, b, 2},
		{"equal pulls", at(14, 12, 12), a, b, 1},
		{"equal pulls with different signs, the first is negative", at(14, 12, 18), a, b, 1},
		{"equal pulls with different signs, the first is positive", at(14, 18, 12), a, b, 1},
		{"equal pulls with different signs, as the first two", at(20, 10), a, b, 0},
		{"equal pulls with different signs, as the first two, exchanged", at(10, 20), a, b, 0},
		{"no entry is pulled", at(15, 15, 15), a, b, 0},
		{"the last one only is pulled", at(15, 15, 14), a, b, 2},
		{"twice the same rectangle", at(14, 11, 99), a, a, 0},
		{"one more beyond the length", at(14, 13, 10)[:2], a, b, 1},
		{"an invalid one is not pulled, as both hold it", boxes(box(highest, highest, lowest, lowest), box(14, 0, 14, 0)), a, b, 1},
		{"an invalid one that is not joined", boxes(box(14, 0, 14, 0), box(0, 0, 256, 0), box(15, 0, 15, 0)), box(0, 0, 9, 0), box(20, 0, 29, 0), 0},
		{"an invalid one, pulled by the larger area than from it", boxes(box(14, 0, 14, 0), box(0, 0, 256, 0)), box(0, 0, 0, 0), everything, 1},
		{"an invalid one, pulled by the larger area", boxes(everything, box(0, 0, 256, 0)), everything, box(2, 0, 1, 0), 0},
		{"an invalid join with the largest only", boxes(box(5, 5, 6, 6), box(0, 0, 0, 256)), everything, box(4, 4, 6, 6), 1},
		{"an invalid first", at(1, 2, 3), box(2, 0, 1, 0), box(0, 0, 9, 0), 2},
		{"both are invalid", at(5, 1, 9), box(0, 0, 256, 0), box(lowest, 0, highest, 0), 0},
		{"2^62 by 2 is -2^63, but the pull is 0, before a larger one", boxes(box(0, 0, 1<<62-1, 1), box(5, 0, 5, 0)), box(1, 0, 0, 0), box(0, 0, 1<<62-1, 1), 1},
		{"2^62 by 2 is -2^63, but the pull is 0, after another of 0", boxes(box(0, 0, 0, 256), box(0, 0, 1<<62-1, 1)), box(1, 0, 0, 0), box(0, 0, 1<<62-1, 1), 0},
	}
	for _, c := range cases {
		if got := impl.NextOf(c.l, c.a, c.b); got != c.want {
			t.Errorf("%s: NextOf(%v, %v, %v) = %d, want %d", c.name, c.l, c.a, c.b, got, c.want)
		}
		if got := impl.NextOf(c.l, c.b, c.a); got != c.want {
			t.Errorf("%s: NextOf(%v, %v, %v) = %d, want %d", c.name, c.l, c.b, c.a, got, c.want)
		}
		if own := nextOf(c.l, c.a, c.b); own != c.want {
			t.Errorf("%s: the tests' next is %d, want %d", c.name, own, c.want)
		}
	}
}

// The area of an invalid rectangle is 0, so no pull reaches -2^63, whose
// absolute value would be negative.
func TestNoPullIsVeryLarge(t *testing.T) {
	l := oddBoxes()
	next := numbers(94)
	for _, r := range l {
		for range 20 {
			a, b := l[next(len(l))], l[next(len(l))]
			if got := impl.Pull(a, b, r); got < -65536 || got > 65536 {
				t.Fatalf("Pull(%v, %v, %v) = %d", a, b, r, got)
			}
		}
	}
}

func TestChooseOfOddEntries(t *testing.T) {
	next := numbers(95)
	all := oddEntries()
	for range 3000 {
		var l []impl.Entry
		for range next(8) {
			l = append(l, all[next(len(all))])
		}
		r, a, b := all[next(len(all))].R, all[next(len(all))].R, oddBox(next)
		checkChoose(t, l, r)
		checkChoose(t, l, b)
		checkSeeds(t, l)
		checkNext(t, l, a, b)
		checkNext(t, l, scatteredBox(next), scatteredBox(next))
	}
	checkChoose(t, all, box(3, 3, 9, 9))
	checkNext(t, all, box(3, 3, 9, 9), box(0, 0, 255, 0))
	checkSeeds(t, all[900:1400])
}

// Nodes have at most Fan entries, but the functions take longer lists, too.
func TestChooseOfLongLists(t *testing.T) {
	next := numbers(96)
	for count := range 90 {
		for _, draw := range drawsOfBoxes() {
			l := drawnEntries(next, count, draw)
			checkChoose(t, l, draw(next))
			checkSeeds(t, l)
			checkNext(t, l, draw(next), draw(next))
		}
	}
}

// In these lists, one entry or one pair only is the best.
func TestEveryIndexIsChosen(t *testing.T) {
	const count = 20
	far, near := box(90, 90, 90, 90), box(11, 11, 11, 11)
	listOf := func(a impl.Box) []impl.Entry { return boxes(slices.Repeat([]impl.Box{a}, count)...) }
	for i := range count {
		l := listOf(far)
		l[i].R = near
		if got := impl.Choose(l, box(10, 10, 10, 10)); got != i {
			t.Errorf("Choose = %d, want %d", got, i)
		}
		if got := impl.NextOf(l, box(95, 95, 95, 95), box(85, 85, 85, 85)); got != i {
			t.Errorf("NextOf = %d, want %d", got, i)
		}
		for k := i + 1; k < count; k++ {
			l := listOf(box(100, 100, 100, 100))
			l[i].R, l[k].R = box(0, 0, 0, 0), box(200, 200, 200, 200)
			if first, second := impl.Seeds(l); first != i || second != k {
				t.Errorf("Seeds = %d, %d, want %d, %d", first, second, i, k)
			}
			l[i], l[k] = l[k], l[i]
			if first, second := impl.Seeds(l); first != i || second != k {
				t.Errorf("Seeds, exchanged = %d, %d, want %d, %d", first, second, i, k)
			}
		}
	}
}

// The numbers of the entries do not matter, even if they are equal or invalid.
func TestChoiceDisregardsNumbers(t *testing.T) {
	next := numbers(97)
	values := oddNumbers()
	for range 500 {
		l := drawnEntries(next, next(9), nearBox)
		r, a, b := nearBox(next), nearBox(next), nearBox(next)
		other, same := slices.Clone(l), slices.Clone(l)
		for i := range l {
			other[i].N, same[i].N = values[next(len(values))], 7
		}
		for _, m := range [][]impl.Entry{other, same} {
			i, k := impl.Seeds(m)
			first, second := impl.Seeds(l)
			if i != first || k != second || impl.Choose(m, r) != impl.Choose(l, r) || impl.NextOf(m, a, b) != impl.NextOf(l, a, b) {
				t.Fatalf("the choices of %v and %v differ", l, m)
			}
		}
	}
}

// choices returns the results of the functions of the chapter for this list.
func choices(l []impl.Entry, a, b impl.Box) []int {
	i, k := impl.Seeds(l)
	return []int{i, k, impl.Choose(l, a), impl.Choose(l, b), impl.NextOf(l, a, b), impl.NextOf(l, b, a)}
}

// No function of the chapter reads or writes beyond the length of a list.
func TestChoiceLeavesTheEntries(t *testing.T) {
	next := numbers(98)
	lists := argumentsOfNodes()
	for count := range 9 {
		for _, draw := range drawsOfBoxes() {
			lists = append(lists, drawnEntries(next, count, draw))
		}
	}
	a, b := box(10, 10, 20, 20), box(200, 200, 255, 255)
	// Each of these would be chosen, if only it were an element.
	beyond := boxes(a, b, everything, box(0, 0, 0, 0), box(math.MinInt, 0, 0, math.MaxInt))
	for _, l := range lists {
		for _, e := range beyond {
			full := append(slices.Clone(l), e, e, beyond[0], beyond[1])
			before := slices.Clone(full)
			if got, want := choices(full[:len(l)], a, b), choices(slices.Clone(l), a, b); !slices.Equal(got, want) {
				t.Errorf("the choices of %v are %v, want %v: they depend on what is beyond its length", l, got, want)
			}
			if !slices.Equal(full, before) {
				t.Errorf("%v was changed to %v", before, full)
			}
		}
	}
}

func TestChoiceOfNoEntries(t *testing.T) {
	want := []int{0, 0, -1, -1, -1, -1}
	for _, l := range [][]impl.Entry{nil, {}, make([]impl.Entry, 0, 5), entries(1, 2, 3)[:0], entries(1, 2, 3)[3:]} {
		for _, a := range []impl.Box{{}, everything, box(9, 9, 9, 9), box(2, 0, 1, 0), box(math.MinInt, math.MaxInt, 0, 0)} {
			if got := choices(l, a, box(1, 2, 3, 4)); !slices.Equal(got, want) {
				t.Errorf("the choices without entries are %v, want %v", got, want)
			}
		}
	}
}
