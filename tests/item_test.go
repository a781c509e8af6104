package tests

import (
	"math"
	"slices"
	"strconv"
	"sync"
	"testing"

	"loop.example/g00492/impl"
)

func item(id int, x0, y0, x1, y1 int) impl.Item {
	return impl.Item{Id: id, R: box(x0, y0, x1, y1)}
}

// positions maps every point to its position on the tests' own curve.
var positions = sync.OnceValue(func() map[point]int {
	m := map[point]int{}
	for d, p := range curveOf(impl.Side) {
		m[p] = d
	}
	return m
})

func keyOf(a impl.Box) int {
	d, ok := positions()[point{(a.X0 + a.X1) / 2, (a.Y0 + a.Y1) / 2}]
	if !ok {
		return -1
	}
	return d
}

func precedesById(a, b impl.Item) bool {
	return a.Id < b.Id
}

func precedesByKey(a, b impl.Item) bool {
	ka, kb := keyOf(a.R), keyOf(b.R)
	return ka < kb || ka == kb && a.Id < b.Id
}

// arranged is the tests' own stable sort: it removes the first of the least
// items until there is none left.
func arranged(l []impl.Item, precedes func(a, b impl.Item) bool) []impl.Item {
	var out []impl.Item
	rest := slices.Clone(l)
	for len(rest) > 0 {
		least := 0
		for i := range rest {
			if precedes(rest[i], rest[least]) {
				least = i
			}
		}
		out = append(out, rest[least])
		rest = slices.Delete(rest, least, least+1)
	}
	return out
}

type order struct {
	name     string
	sort     func([]impl.Item) []impl.Item
	precedes func(a, b impl.Item) bool
}

func orders() []order {
	return []order{
		{"ById", impl.ById, precedesById},
		{"ByKey", impl.ByKey, precedesByKey},
	}
}

// counts ignores the order of the items.
func counts(l []impl.Item) map[impl.Item]int {
	m := map[impl.Item]int{}
	for _, x := range l {
		m[x]++
	}
	return m
}

func sameCounts(a, b map[impl.Item]int) bool {
	for x, n := range a {
		if b[x] != n {
			return false
		}
	}
	return len(a) == len(b)
}

// checkSorts checks both sorts of l: the items are preserved, and their order
// is that of the tests' own stable sort.
func checkSorts(t *testing.T, l []impl.Item) {
	t.Helper()
	for _, o := range orders() {
		got := o.sort(l)
		if !sameCounts(counts(got), counts(l)) {
			t.Fatalf("%s(%v) = %v: not the same items", o.name, l, got)
		}
		if want := arranged(l, o.precedes); !slices.Equal(got, want) {
			t.Fatalf("%s(%v) = %v, want %v", o.name, l, got, want)
		}
	}
}

// oddItems returns items that are nearly all invalid, in no order.
func oddItems() []impl.Item {
	ids := []int{1, math.MaxInt, 0, 500, math.MinInt, impl.MaxId, -1, impl.MaxId + 1}
	var l []impl.Item
	for i, a := range oddBoxes() {
		l = append(l, impl.Item{Id: ids[i%len(ids)], R: a})
	}
	return l
}

// numbers returns a function that returns scattered integers from 0 to n-1,
// the same ones in every run.
func numbers(seed uint64) func(n int) int {
	return func(n int) int {
		seed = seed*6364136223846793005 + 1442695040888963407
		return int(seed>>33) % n
	}
}

func validId(id int) bool {
	return id > 0 && id < 1000
}

func TestItemOk(t *testing.T) {
	if impl.MaxId != 999 {
		t.Errorf("MaxId = %d", impl.MaxId)
	}
	for _, x := range []impl.Item{item(1, 0, 0, 0, 0), item(2, 3, 4, 5, 6), item(998, 255, 255, 255, 255), item(999, 0, 0, 255, 255)} {
		if !impl.ItemOk(x) {
			t.Errorf("ItemOk(%v) = false", x)
		}
	}
	for _, id := range []int{0, -1, -999, 1000, 1001, 65536 + 7, 1<<32 + 7, math.MaxInt, math.MinInt} {
		if impl.ItemOk(item(id, 1, 1, 2, 2)) {
			t.Errorf("ItemOk accepts the Id %d", id)
		}
	}
	for _, a := range []impl.Box{box(2, 0, 1, 0), box(0, 2, 0, 1), box(-1, 0, 0, 0), box(0, -1, 0, 0), box(0, 0, 256, 0), box(0, 0, 0, 256)} {
		if impl.ItemOk(impl.Item{Id: 7, R: a}) {
			t.Errorf("ItemOk accepts the rectangle %v", a)
		}
	}
	if impl.ItemOk(impl.Item{}) {
		t.Error("ItemOk accepts the zero Item")
	}
}

func TestItemOkOfOddItems(t *testing.T) {
	for _, x := range oddItems() {
		if got := impl.ItemOk(x); got != (validId(x.Id) && impl.BoxOk(x.R)) {
			t.Errorf("ItemOk(%v) = %v", x, got)
		}
	}
}

func TestAhead(t *testing.T) {
	cases := []struct {
		name string
		a, b impl.Item
		want int
	}{
		{"by position", item(9, 0, 0, 0, 0), item(2, 1, 0, 1, 0), -1},
		{"by position, not by coordinates", item(1, 255, 0, 255, 0), item(2, 0, 255, 0, 255), 1},
		{"by position of the middle", item(1, 0, 0, 255, 255), item(2, 0, 255, 0, 255), -1},
		{"equal positions", item(2, 5, 5, 5, 5), item(4, 5, 5, 5, 5), -1},
		{"equal positions of different rectangles", item(4, 0, 0, 1, 1), item(2, 0, 0, 0, 0), 1},
		{"equal Ids", item(7, 1, 1, 1, 1), item(7, 1, 0, 1, 0), 1},
		{"equal Ids and positions", item(7, 0, 0, 1, 1), item(7, 0, 0, 0, 1), 0},
		{"equal", item(7, 3, 4, 5, 6), item(7, 3, 4, 5, 6), 0},
		{"the limits of Id", item(1, 9, 9, 9, 9), item(999, 9, 9, 9, 9), -1},
		{"Ids beyond the limits", item(0, 9, 9, 9, 9), item(1000, 9, 9, 9, 9), -1},
		{"extreme Ids", item(math.MinInt, 9, 9, 9, 9), item(math.MaxInt, 9, 9, 9, 9), -1},
		{"extreme Ids, by position", item(math.MinInt, 1, 0, 1, 0), item(math.MaxInt, 0, 0, 0, 0), 1},
		{"no position", item(9, 256, 0, 256, 0), item(1, 0, 0, 0, 0), -1},
		{"neither has a position", item(1, -9, 0, -9, 0), item(2, 999, 0, 999, 0), -1},
		{"an invalid rectangle with a position", item(9, 3, 3, 1, 1), item(9, 2, 2, 2, 3), 0},
		{"extreme rectangles", item(3, math.MinInt, math.MinInt, math.MaxInt, math.MaxInt), item(2, 0, 0, 0, 0), 1},
		{"extreme rectangles without a position", item(3, math.MaxInt, 0, math.MaxInt, 0), item(2, 0, 0, 0, 0), -1},
		{"two zero Items", impl.Item{}, impl.Item{}, 0},
	}
	for _, c := range cases {
		if got := impl.Ahead(c.a, c.b); got != (c.want < 0) {
			t.Errorf("%s: Ahead(%v, %v) = %v", c.name, c.a, c.b, got)
		}
		if got := impl.Ahead(c.b, c.a); got != (c.want > 0) {
			t.Errorf("%s: Ahead(%v, %v) = %v", c.name, c.b, c.a, got)
		}
	}
}

func TestAheadOfOddItems(t *testing.T) {
	l := oddItems()
	for i := 0; i < len(l); i += 7 {
		for j := 0; j < len(l); j += 5 {
			if got := impl.Ahead(l[i], l[j]); got != precedesByKey(l[i], l[j]) {
				t.Fatalf("Ahead(%v, %v) = %v", l[i], l[j], got)
			}
		}
	}
}

// The positions of one Id are in the order of the curve.
func TestAheadAlongTheCurve(t *testing.T) {
	l := curveOf(impl.Side)
	for d := range len(l) - 1 {
		a := item(5, l[d].x, l[d].y, l[d].x, l[d].y)
		b := item(5, l[d+1].x, l[d+1].y, l[d+1].x, l[d+1].y)
		if !impl.Ahead(a, b) || impl.Ahead(b, a) || impl.Ahead(a, a) {
			t.Fatalf("Ahead of %v and %v", a, b)
		}
	}
}

func TestSorts(t *testing.T) {
	far, near := item(1, 255, 0, 255, 0), item(2, 0, 0, 0, 0)
	high := item(3, 0, 255, 0, 255)
	small, large := item(7, 0, 0, 0, 0), item(7, 0, 0, 1, 1)
	low, off := item(7, 1, 0, 1, 0), item(4, 300, 0, 300, 0)
	cases := []struct{ l, byId, byKey []impl.Item }{
		{nil, nil, nil},
		{[]impl.Item{}, nil, nil},
		{[]impl.Item{far}, []impl.Item{far}, []impl.Item{far}},
		{[]impl.Item{{}}, []impl.Item{{}}, []impl.Item{{}}},
		{[]impl.Item{high, near, far}, []impl.Item{far, near, high}, []impl.Item{near, high, far}},
		{[]impl.Item{far, near, high}, []impl.Item{far, near, high}, []impl.Item{near, high, far}},
		{[]impl.Item{near, near, far}, []impl.Item{far, near, near}, []impl.Item{near, near, far}},
		{[]impl.Item{small, near}, []impl.Item{near, small}, []impl.Item{near, small}},
		{[]impl.Item{small, large, low}, []impl.Item{small, large, low}, []impl.Item{small, large, low}},
		{[]impl.Item{low, large, small}, []impl.Item{low, large, small}, []impl.Item{large, small, low}},
		{[]impl.Item{large, near, small}, []impl.Item{near, large, small}, []impl.Item{near, large, small}},
		{[]impl.Item{near, off, far}, []impl.Item{far, near, off}, []impl.Item{off, near, far}},
		{[]impl.Item{item(999, 1, 1, 1, 1), item(1, 1, 1, 1, 1)}, []impl.Item{item(1, 1, 1, 1, 1), item(999, 1, 1, 1, 1)}, []impl.Item{item(1, 1, 1, 1, 1), item(999, 1, 1, 1, 1)}},
		{[]impl.Item{item(math.MaxInt, 0, 0, 0, 0), item(math.MinInt, 0, 0, 0, 0)}, []impl.Item{item(math.MinInt, 0, 0, 0, 0), item(math.MaxInt, 0, 0, 0, 0)}, []impl.Item{item(math.MinInt, 0, 0, 0, 0), item(math.MaxInt, 0, 0, 0, 0)}},
	}
	for _, c := range cases {
		if got := impl.ById(c.l); !slices.Equal(got, c.byId) {
			t.Errorf("ById(%v) = %v, want %v", c.l, got, c.byId)
		}
		if got := impl.ByKey(c.l); !slices.Equal(got, c.byKey) {
			t.Errorf("ByKey(%v) = %v, want %v", c.l, got, c.byKey)
		}
	}
}

// Promise 4, for every order of items with equal Ids, equal positions, or both.
func TestSortsPreserveTheItemsOfEveryShortList(t *testing.T) {
	all := []impl.Item{
		item(5, 0, 0, 0, 0),
		item(5, 0, 0, 1, 1),
		item(3, 1, 1, 0, 0),
		item(5, 9, 9, 9, 9),
		item(0, 999, 0, 999, 0),
	}
	var lists func(l []impl.Item)
	lists = func(l []impl.Item) {
		checkSorts(t, l)
		if len(l) == len(all) {
			return
		}
		for _, x := range all {
			lists(append(slices.Clone(l), x))
		}
	}
	lists(nil)
}

// Promise 4: in lists of these lengths many items have equal Ids, equal
// positions, or both.
func TestSortsPreserveTheItemsOfLongLists(t *testing.T) {
	for _, n := range []int{11, 12, 13, 19, 20, 21, 40, 41, 100, 300} {
		for _, ids := range []int{1, 2, 5, impl.MaxId} {
			for _, side := range []int{1, 2, 6, impl.Side} {
				next := numbers(uint64(n + ids + side))
				var l []impl.Item
				for range n {
					x, y := next(side), next(side)
					l = append(l, item(1+next(ids), x, y, x+next(side-x), y+next(side-y)))
				}
				checkSorts(t, l)
			}
		}
	}
}

// Promise 4, for lists that are sorted already, or in the opposite order.
func TestSortsPreserveTheItemsOfSortedLists(t *testing.T) {
	next := numbers(4)
	var l []impl.Item
	for range 120 {
		l = append(l, item(1+next(9), next(4), next(4), next(4), next(4)))
	}
	for _, o := range orders() {
		up := arranged(l, o.precedes)
		checkSorts(t, up)
		slices.Reverse(up)
		checkSorts(t, up)
	}
}

// Promise 4, for invalid items.
func TestSortsPreserveInvalidItems(t *testing.T) {
	l := oddItems()
	for _, n := range []int{1, 2, 20, 150} {
		for from := 0; from+n <= len(l); from += 311 {
			checkSorts(t, l[from:from+n])
		}
	}
	next := numbers(8)
	for i := range l {
		j := next(i + 1)
		l[i], l[j] = l[j], l[i]
	}
	checkSorts(t, l[:400])
}

func argumentsOfSorts() [][]impl.Item {
	return [][]impl.Item{
		nil,
		{},
		{item(3, 1, 1, 2, 2)},
		{item(3, 1, 1, 2, 2), item(3, 1, 1, 2, 2)},
		{item(1, 0, 0, 0, 0), item(2, 0, 1, 0, 1), item(3, 9, 9, 9, 9)},
		{item(9, 255, 0, 255, 0), item(4, 0, 0, 0, 0), item(2, 0, 0, 0, 0)},
		{item(0, 256, 0, 256, 0), item(-1, 0, 0, 0, 0)},
		oddItems()[:60],
	}
}

// Both sorts neither read nor write beyond the length of their argument.
func TestSortsLeaveTheArgument(t *testing.T) {
	beyond := []impl.Item{item(1, 0, 0, 0, 0), item(-5, 7, 7, 7, 7), item(2, 256, 0, 0, 0)}
	for _, o := range orders() {
		for _, l := range argumentsOfSorts() {
			full := append(slices.Clone(l), beyond...)
			before := slices.Clone(full)
			if got := o.sort(full[:len(l)]); !slices.Equal(got, arranged(l, o.precedes)) {
				t.Errorf("%s of a part of %v = %v", o.name, full, got)
			}
			if !slices.Equal(full, before) {
				t.Errorf("%s changed %v to %v", o.name, before, full)
			}
		}
	}
}

func TestSortsShareNoMemory(t *testing.T) {
	for _, o := range orders() {
		for _, l := range argumentsOfSorts() {
			full := append(slices.Clone(l), item(1, 2, 3, 4, 5), item(6, 7, 8, 9, 10))
			before := slices.Clone(full)
			got := o.sort(full[:len(l)])
			want := slices.Clone(got)
			other := o.sort(full[:len(l)])
			whole := got[:cap(got)]
			for i := range whole {
				whole[i] = item(99, 9, 9, 9, 9)
			}
			_ = append(got, item(98, 8, 8, 8, 8))
			if !slices.Equal(full, before) {
				t.Errorf("%s(%v) shares memory with its argument", o.name, l)
			}
			if !slices.Equal(other, want) {
				t.Errorf("two results of %s(%v) share memory", o.name, l)
			}
		}
	}
}

func TestItemAt(t *testing.T) {
	l := []impl.Item{item(4, 0, 0, 0, 0), item(1, 9, 9, 9, 9), item(4, 5, 5, 5, 5), item(999, 0, 0, 1, 1), item(1, 9, 9, 9, 9)}
	odd := []impl.Item{item(1000, 0, 0, 0, 0), {}, item(-1, 2, 2, 1, 1), item(math.MaxInt, 0, 0, 0, 0), item(math.MinInt, 0, 0, 0, 0), item(7, 256, 0, 0, 0), item(0, 1, 1, 1, 1)}
	cases := []struct {
		l        []impl.Item
		id, want int
	}{
		{l, 4, 0},
		{l, 1, 1},
		{l, 999, 3},
		{l, 2, -1},
		{l, 0, -1},
		{l, -1, -1},
		{l, 1000, -1},
		{l, math.MaxInt, -1},
		{l, math.MinInt, -1},
		{nil, 1, -1},
		{nil, 0, -1},
		{[]impl.Item{}, 4, -1},
		{odd, 1000, 0},
		{odd, 0, 1},
		{odd, -1, 2},
		{odd, math.MaxInt, 3},
		{odd, math.MinInt, 4},
		{odd, 7, 5},
		{odd, 1, -1},
		{l[1:], 4, 1},
		{l[:3], 999, -1},
		{l[:0], 4, -1},
	}
	for _, c := range cases {
		if got := impl.ItemAt(c.l, c.id); got != c.want {
			t.Errorf("ItemAt(%v, %d) = %d, want %d", c.l, c.id, got, c.want)
		}
	}
}

// itemsWithAllIds returns one valid item for each Id, the highest first.
func itemsWithAllIds() []impl.Item {
	var l []impl.Item
	for id := impl.MaxId; id >= 1; id-- {
		l = append(l, item(id, id%256, id/256, 255, 255))
	}
	return l
}

func TestItemsOk(t *testing.T) {
	a, b, c := item(1, 0, 0, 0, 0), item(500, 0, 0, 0, 0), item(999, 3, 4, 5, 6)
	all := itemsWithAllIds()
	cases := []struct {
		name string
		l    []impl.Item
		want bool
	}{
		{"nil", nil, true},
		{"empty", []impl.Item{}, true},
		{"one", []impl.Item{a}, true},
		{"three", []impl.Item{c, a, b}, true},
		{"all Ids", all, true},
		{"all Ids, the first one again", append(slices.Clone(all), all[0]), false},
		{"all Ids, the last one again", append(slices.Clone(all), all[998]), false},
		{"an item twice", []impl.Item{a, a}, false},
		{"an item twice, apart", []impl.Item{c, a, b, c}, false},
		{"an Id twice", []impl.Item{a, item(1, 7, 7, 7, 7)}, false},
		{"an Id twice, at the end", []impl.Item{a, b, c, item(999, 7, 7, 7, 7)}, false},
		{"an Id twice, beyond the length", []impl.Item{a, b, a}[:2], true},
		{"an invalid item beyond the length", []impl.Item{a, b, {}}[:2], true},
		{"the zero Item", []impl.Item{{}}, false},
		{"Id 0", []impl.Item{a, item(0, 0, 0, 0, 0)}, false},
		{"Id 1000", []impl.Item{item(1000, 0, 0, 0, 0), a}, false},
		{"an invalid rectangle", []impl.Item{a, item(2, 3, 0, 2, 0), c}, false},
	}
	for _, c := range cases {
		if got := impl.ItemsOk(c.l); got != c.want {
			t.Errorf("%s: ItemsOk = %v", c.name, got)
		}
	}
}

func TestItemsOkOfOddItems(t *testing.T) {
	for _, x := range oddItems() {
		ok := impl.ItemOk(x)
		for _, l := range [][]impl.Item{{x}, {x, item(2, 0, 0, 0, 0)}, {item(2, 0, 0, 0, 0), x}} {
			if impl.ItemsOk(l) != ok {
				t.Errorf("ItemsOk(%v) = %v", l, !ok)
			}
		}
		if impl.ItemsOk([]impl.Item{x, x}) {
			t.Errorf("ItemsOk accepts %v twice", x)
		}
	}
}

func TestSameItems(t *testing.T) {
	x := item(7, 1, 2, 3, 4)
	y := item(8, 0, 0, 0, 0)
	odd := item(math.MinInt, math.MaxInt, 0, math.MinInt, -1)
	cases := []struct {
		name string
		a, b []impl.Item
		want bool
	}{
		{"nil", nil, nil, true},
		{"nil and empty", nil, []impl.Item{}, true},
		{"empty part", nil, []impl.Item{x}[:0], true},
		{"equal", []impl.Item{x, y}, []impl.Item{x, y}, true},
		{"equal, with more beyond the length", []impl.Item{x, y}[:1], []impl.Item{x}, true},
		{"another order", []impl.Item{x, y}, []impl.Item{y, x}, false},
		{"a prefix", []impl.Item{x}, []impl.Item{x, y}, false},
		{"nil and one", nil, []impl.Item{x}, false},
		{"nil and the zero Item", nil, []impl.Item{{}}, false},
		{"twice and once", []impl.Item{x, x}, []impl.Item{x}, false},
		{"Id", []impl.Item{x}, []impl.Item{item(6, 1, 2, 3, 4)}, false},
		{"X0", []impl.Item{x}, []impl.Item{item(7, 0, 2, 3, 4)}, false},
		{"Y0", []impl.Item{x}, []impl.Item{item(7, 1, 1, 3, 4)}, false},
		{"X1", []impl.Item{x}, []impl.Item{item(7, 1, 2, 4, 4)}, false},
		{"Y1", []impl.Item{x}, []impl.Item{item(7, 1, 2, 3, 5)}, false},
		{"the last item", []impl.Item{x, y, x}, []impl.Item{x, y, y}, false},
		{"invalid and equal", []impl.Item{odd, {}}, []impl.Item{odd, {}}, true},
		{"invalid and different", []impl.Item{odd}, []impl.Item{{}}, false},
		{"two invalid Ids", []impl.Item{item(0, 1, 1, 1, 1)}, []impl.Item{item(1000, 1, 1, 1, 1)}, false},
		{"two invalid rectangles", []impl.Item{item(1, 256, 0, 0, 0)}, []impl.Item{item(1, 257, 0, 0, 0)}, false},
	}
	for _, c := range cases {
		if impl.SameItems(c.a, c.b) != c.want || impl.SameItems(c.b, c.a) != c.want {
			t.Errorf("%s: SameItems of %v and %v is not %v", c.name, c.a, c.b, c.want)
		}
	}
}

func TestItemText(t *testing.T) {
	cases := []struct {
		x    impl.Item
		want string
	}{
		{item(7, 0, 0, 10, 20), "7: 0,0 10,20"},
		{item(1, 0, 0, 0, 0), "1: 0,0 0,0"},
		{item(999, 255, 255, 255, 255), "999: 255,255 255,255"},
		{item(42, 1, 2, 3, 4), "42: 1,2 3,4"},
		{item(100, 10, 9, 100, 99), "100: 10,9 100,99"},
		{impl.Item{}, ""},
		{item(0, 1, 1, 1, 1), ""},
		{item(-7, 1, 1, 1, 1), ""},
		{item(1000, 1, 1, 1, 1), ""},
		{item(math.MaxInt, 1, 1, 1, 1), ""},
		{item(math.MinInt, 1, 1, 1, 1), ""},
		{item(7, 2, 0, 1, 0), ""},
		{item(7, 0, 2, 0, 1), ""},
		{item(7, -1, 0, 1, 0), ""},
		{item(7, 0, 0, 0, 256), ""},
		{item(7, math.MinInt, 0, math.MaxInt, 0), ""},
	}
	for _, c := range cases {
		if got := impl.ItemText(c.x); got != c.want {
			t.Errorf("ItemText(%v) = %q, want %q", c.x, got, c.want)
		}
	}
}

func TestItemTextOfManyItems(t *testing.T) {
	for _, x := range slices.Concat(itemsWithAllIds(), oddItems()) {
		want := ""
		if validId(x.Id) && impl.BoxOk(x.R) {
			want = strconv.Itoa(x.Id) + ": " + strconv.Itoa(x.R.X0) + "," + strconv.Itoa(x.R.Y0) + " " + strconv.Itoa(x.R.X1) + "," + strconv.Itoa(x.R.Y1)
		}
		if got := impl.ItemText(x); got != want {
			t.Errorf("ItemText(%v) = %q, want %q", x, got, want)
		}
	}
}

// The functions that only read a list leave it and its spare capacity alone.
func TestReadingLeavesTheItems(t *testing.T) {
	for _, l := range argumentsOfSorts() {
		full := append(slices.Clone(l), item(5, 1, 1, 1, 1), item(4, 0, 0, 0, 0))
		before := slices.Clone(full)
		part := full[:len(l)]
		impl.ItemAt(part, 5)
		impl.ItemsOk(part)
		impl.SameItems(part, part)
		impl.SameItems(part, full)
		if !slices.Equal(full, before) {
			t.Errorf("reading changed %v to %v", before, full)
		}
	}
}
