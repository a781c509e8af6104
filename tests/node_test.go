package tests

import (
	"math"
	"slices"
	"testing"

	"loop.example/g00492/impl"
)

func entry(n int, x0, y0, x1, y1 int) impl.Entry {
	return impl.Entry{N: n, R: box(x0, y0, x1, y1)}
}

// entries returns entries with these numbers and different, valid rectangles.
func entries(values ...int) []impl.Entry {
	var l []impl.Entry
	for i, n := range values {
		l = append(l, entry(n, i, 2*i, i+3, 2*i+1))
	}
	return l
}

func leaf(l ...impl.Entry) impl.Node {
	return impl.Node{Leaf: true, L: l}
}

func inner(l ...impl.Entry) impl.Node {
	return impl.Node{L: l}
}

// oddNumbers returns numbers around the limits of both kinds of nodes, and
// numbers far away from them.
func oddNumbers() []int {
	return []int{math.MinInt, math.MinInt + 1, -65536, -999, -48, -2, -1, 0, 1, 2, 46, 47, 48, 49, 998, 999, 1000, 1001, 65535, 65536 + 1, 1<<32 + 1, math.MaxInt - 1, math.MaxInt}
}

// oddEntries returns entries that are nearly all invalid.
func oddEntries() []impl.Entry {
	var l []impl.Entry
	values := oddNumbers()
	for i, a := range oddBoxes() {
		l = append(l, impl.Entry{N: values[i%len(values)], R: a})
	}
	return l
}

// validNode is the tests' own check of a node.
func validNode(n impl.Node) bool {
	lowest, highest := 0, 47
	if n.Leaf {
		lowest, highest = 1, 999
	} else if len(n.L) == 0 {
		return false
	}
	seen := map[int]bool{}
	for _, e := range n.L {
		if e.N < lowest || e.N > highest || !impl.BoxOk(e.R) {
			return false
		}
		seen[e.N] = true
	}
	return len(seen) == len(n.L) && len(n.L) <= 4
}

// boundOf is the tests' own bound of a list of entries.
func boundOf(l []impl.Entry) impl.Box {
	if len(l) == 0 {
		return impl.Box{}
	}
	a := box(math.MaxInt, math.MaxInt, math.MinInt, math.MinInt)
	for _, e := range l {
		a = box(min(a.X0, e.R.X0), min(a.Y0, e.R.Y0), max(a.X1, e.R.X1), max(a.Y1, e.R.Y1))
	}
	return a
}

func entriesFor(l []impl.Item) []impl.Entry {
	var out []impl.Entry
	for _, x := range l {
		out = append(out, entry(x.Id, x.R.X0, x.R.Y0, x.R.X1, x.R.Y1))
	}
	return out
}

func itemsFor(l []impl.Entry) []impl.Item {
	var out []impl.Item
	for _, e := range l {
		out = append(out, item(e.N, e.R.X0, e.R.Y0, e.R.X1, e.R.Y1))
	}
	return out
}

func TestLimitsOfNodes(t *testing.T) {
	if impl.Fan != 4 || impl.Thin != 2 || impl.MaxPages != 48 {
		t.Errorf("Fan = %d, Thin = %d, MaxPages = %d", impl.Fan, impl.Thin, impl.MaxPages)
	}
}

func TestNodeOk(t *testing.T) {
	good, bad := entry(2, 1, 1, 2, 2), entry(3, 2, 1, 1, 2)
	cases := []struct {
		name        string
		l           []impl.Entry
		leaf, inner bool
	}{
		{"nil", nil, true, false},
		{"empty", []impl.Entry{}, true, false},
		{"empty, with entries beyond the length", entries(1, 2)[:0], true, false},
		{"one entry", entries(7), true, true},
		{"two entries", entries(9, 4), true, true},
		{"Fan entries", entries(4, 3, 2, 1), true, true},
		{"Fan entries, with one more beyond the length", entries(1, 2, 3, 4, 5)[:4], true, true},
		{"one more than Fan", entries(1, 2, 3, 4, 5), false, false},
		{"two more than Fan", entries(1, 2, 3, 4, 5, 6), false, false},
		{"very many", entriesFor(itemsWithAllIds()), false, false},
		{"0 is a page only", entries(0), false, true},
		{"0 is a page only, as the last", entries(3, 2, 1, 0), false, true},
		{"1 is both", entries(1), true, true},
		{"47 is both", entries(47), true, true},
		{"0 and 47", entries(0, 47), false, true},
		{"48 is an Id only", entries(48), true, false},
		{"48 is an Id only, as the last", entries(1, 2, 3, 48), true, false},
		{"999 is an Id only", entries(999), true, false},
		{"1 and 999", entries(999, 1), true, false},
		{"0 and 999", entries(0, 999), false, false},
		{"1000", entries(1000), false, false},
		{"1000 as the last", entries(1, 2, 3, 1000), false, false},
		{"-1", entries(-1), false, false},
		{"-1 as the last", entries(1, -1), false, false},
		{"-47", entries(-47), false, false},
		{"65537, whose low bytes are 1", entries(65537), false, false},
		{"2^32 + 1", entries(1<<32 + 1), false, false},
		{"the greatest number", entries(math.MaxInt), false, false},
		{"the least number", entries(math.MinInt), false, false},
		{"a number twice", entries(5, 5), false, false},
		{"a number twice, at the end", entries(1, 2, 3, 3), false, false},
		{"a number twice, apart", entries(6, 7, 8, 6), false, false},
		{"a number twice, in the middle", entries(6, 7, 7, 8), false, false},
		{"an entry twice", []impl.Entry{good, good}, false, false},
		{"an entry twice, apart", []impl.Entry{good, entry(1, 0, 0, 0, 0), good}, false, false},
		{"a number twice, beyond the length", entries(6, 7, 6)[:2], true, true},
		{"an invalid entry beyond the length", []impl.Entry{good, bad}[:1], true, true},
		{"one rectangle twice", []impl.Entry{entry(1, 3, 4, 5, 6), entry(2, 3, 4, 5, 6)}, true, true},
		{"the zero Entry", []impl.Entry{{}}, false, true},
		{"the largest rectangle", []impl.Entry{entry(1, 0, 0, 255, 255)}, true, true},
		{"an invalid rectangle", []impl.Entry{bad}, false, false},
		{"an invalid rectangle, as the last", []impl.Entry{good, bad}, false, false},
		{"an invalid rectangle, as the first", []impl.Entry{bad, good}, false, false},
		{"X1 is 256", []impl.Entry{entry(1, 0, 0, 256, 0)}, false, false},
		{"Y1 is 256", []impl.Entry{entry(1, 0, 0, 0, 256)}, false, false},
		{"X0 is -1", []impl.Entry{entry(1, -1, 0, 0, 0)}, false, false},
		{"Y0 is -1", []impl.Entry{entry(1, 0, -1, 0, 0)}, false, false},
	}
	for _, c := range cases {
		if got := impl.NodeOk(leaf(c.l...)); got != c.leaf {
			t.Errorf("%s: NodeOk of a leaf = %v", c.name, got)
		}
		if got := impl.NodeOk(inner(c.l...)); got != c.inner {
			t.Errorf("%s: NodeOk of an inner node = %v", c.name, got)
		}
	}
}

func TestNodeOkOfEveryNumber(t *testing.T) {
	for n := -2000; n <= 2000; n++ {
		if got := impl.NodeOk(leaf(entries(n)...)); got != (n >= 1 && n <= 999) {
			t.Errorf("NodeOk of a leaf with %d = %v", n, got)
		}
		if got := impl.NodeOk(inner(entries(n)...)); got != (n >= 0 && n <= 47) {
			t.Errorf("NodeOk of an inner node with %d = %v", n, got)
		}
	}
}

// eachShortList calls check with every list of up to six of these entries.
func eachShortList(all []impl.Entry, check func(l []impl.Entry)) {
	var extend func(l []impl.Entry)
	extend = func(l []impl.Entry) {
		check(l)
		if len(l) == 6 {
			return
		}
		for _, e := range all {
			extend(append(slices.Clone(l), e))
		}
	}
	extend(nil)
}

func TestNodeOkOfEveryShortList(t *testing.T) {
	valid := []impl.Entry{entry(1, 0, 0, 0, 0), entry(2, 5, 5, 6, 6), entry(3, 0, 0, 0, 0), entry(4, 1, 2, 3, 4), entry(5, 255, 255, 255, 255), entry(6, 9, 9, 9, 9)}
	clashing := []impl.Entry{entry(0, 0, 0, 0, 0), entry(1, 0, 0, 0, 0), entry(1, 7, 7, 8, 8), entry(47, 1, 2, 3, 4), entry(48, 1, 2, 3, 4), entry(2, 3, 3, 2, 2)}
	for _, all := range [][]impl.Entry{valid, clashing} {
		eachShortList(all, func(l []impl.Entry) {
			for _, n := range []impl.Node{leaf(l...), inner(l...)} {
				if got := impl.NodeOk(n); got != validNode(n) {
					t.Fatalf("NodeOk(%v) = %v", n, got)
				}
			}
		})
	}
}

func TestNodeOkOfOddEntries(t *testing.T) {
	for _, e := range oddEntries() {
		for _, l := range [][]impl.Entry{{e}, {e, entry(7, 0, 0, 0, 0)}, {entry(7, 0, 0, 0, 0), e}, {e, e}} {
			for _, n := range []impl.Node{leaf(l...), inner(l...)} {
				if got := impl.NodeOk(n); got != validNode(n) {
					t.Errorf("NodeOk(%v) = %v", n, got)
				}
			}
		}
	}
}

func TestSameNode(t *testing.T) {
	e, f := entry(7, 1, 2, 3, 4), entry(8, 0, 0, 0, 0)
	odd := entry(math.MinInt, math.MaxInt, 0, math.MinInt, -1)
	many := entriesFor(itemsWithAllIds())
	cases := []struct {
		name string
		a, b []impl.Entry
		want bool
	}{
		{"nil", nil, nil, true},
		{"nil and empty", nil, []impl.Entry{}, true},
		{"empty, with entries beyond the length", nil, []impl.Entry{e}[:0], true},
		{"nil and one", nil, []impl.Entry{e}, false},
		{"nil and the zero Entry", nil, []impl.Entry{{}}, false},
		{"equal", []impl.Entry{e, f}, []impl.Entry{e, f}, true},
		{"equal, with more beyond the length", []impl.Entry{e, f}[:1], []impl.Entry{e}, true},
		{"another order", []impl.Entry{e, f}, []impl.Entry{f, e}, false},
		{"a prefix", []impl.Entry{e}, []impl.Entry{e, f}, false},
		{"the prefix of Fan entries", entries(1, 2, 3, 4), entries(1, 2, 3, 4, 5), false},
		{"once and twice", []impl.Entry{e}, []impl.Entry{e, e}, false},
		{"equal, an entry twice", []impl.Entry{e, e}, []impl.Entry{e, e}, true},
		{"a number twice, another rectangle", []impl.Entry{e, entry(7, 0, 0, 0, 0)}, []impl.Entry{e, e}, false},
		{"N", []impl.Entry{e}, []impl.Entry{entry(6, 1, 2, 3, 4)}, false},
		{"X0", []impl.Entry{e}, []impl.Entry{entry(7, 0, 2, 3, 4)}, false},
		{"Y0", []impl.Entry{e}, []impl.Entry{entry(7, 1, 1, 3, 4)}, false},
		{"X1", []impl.Entry{e}, []impl.Entry{entry(7, 1, 2, 4, 4)}, false},
		{"Y1", []impl.Entry{e}, []impl.Entry{entry(7, 1, 2, 3, 5)}, false},
		{"the last entry", []impl.Entry{e, f, e}, []impl.Entry{e, f, f}, false},
		{"more than Fan, equal", entries(1, 2, 3, 4, 5), entries(1, 2, 3, 4, 5), true},
		{"more than Fan, another fifth", entries(1, 2, 3, 4, 5), entries(1, 2, 3, 4, 6), false},
		{"very many, equal", many, slices.Clone(many), true},
		{"very many, without the last", many, many[:998], false},
		{"invalid, equal", []impl.Entry{odd, {}}, []impl.Entry{odd, {}}, true},
		{"invalid, different", []impl.Entry{odd}, []impl.Entry{{}}, false},
		{"two invalid numbers", entries(1000), entries(-1), false},
		{"the extreme numbers", entries(math.MaxInt), entries(math.MinInt), false},
		{"numbers with equal low bytes", entries(1), entries(1<<32 + 1), false},
		{"two invalid rectangles", []impl.Entry{entry(1, 256, 0, 0, 0)}, []impl.Entry{entry(1, 257, 0, 0, 0)}, false},
	}
	for _, c := range cases {
		for _, kind := range []bool{true, false} {
			a, b := impl.Node{Leaf: kind, L: c.a}, impl.Node{Leaf: kind, L: c.b}
			if impl.SameNode(a, b) != c.want || impl.SameNode(b, a) != c.want {
				t.Errorf("%s: SameNode of %v and %v is not %v", c.name, a, b, c.want)
			}
			b.Leaf = !kind
			if impl.SameNode(a, b) || impl.SameNode(b, a) {
				t.Errorf("%s: a leaf is the same as an inner node", c.name)
			}
		}
	}
}

func TestBoundOf(t *testing.T) {
	cases := []struct {
		name string
		l    []impl.Entry
		want impl.Box
	}{
		{"nil", nil, impl.Box{}},
		{"empty", []impl.Entry{}, impl.Box{}},
		{"empty, with entries beyond the length", entries(1, 2)[:0], impl.Box{}},
		{"one", []impl.Entry{entry(9, 5, 6, 7, 8)}, box(5, 6, 7, 8)},
		{"one point, far from (0, 0)", []impl.Entry{entry(1, 255, 255, 255, 255)}, box(255, 255, 255, 255)},
		{"two", []impl.Entry{entry(4, 4, 0, 6, 1), entry(9, 9, 0, 11, 1)}, box(4, 0, 11, 1)},
		{"one inside another", []impl.Entry{entry(4, 1, 1, 9, 9), entry(9, 2, 2, 3, 3)}, box(1, 1, 9, 9)},
		{"each sets one side", []impl.Entry{entry(1, 2, 5, 6, 6), entry(2, 5, 2, 6, 6), entry(3, 5, 5, 9, 6), entry(4, 5, 5, 6, 9)}, box(2, 2, 9, 9)},
		{"the fifth, too", []impl.Entry{entry(1, 5, 5, 5, 5), entry(2, 5, 5, 5, 5), entry(3, 5, 5, 5, 5), entry(4, 5, 5, 5, 5), entry(5, 8, 9, 8, 9)}, box(5, 5, 8, 9)},
		{"one beyond the length", []impl.Entry{entry(1, 5, 5, 5, 5), entry(2, 0, 0, 255, 255)}[:1], box(5, 5, 5, 5)},
		{"equal numbers", []impl.Entry{entry(3, 5, 5, 5, 5), entry(3, 8, 9, 8, 9)}, box(5, 5, 8, 9)},
		{"invalid numbers", []impl.Entry{entry(math.MaxInt, 5, 5, 5, 5), entry(-1, 8, 9, 8, 9)}, box(5, 5, 8, 9)},
		{"an invalid rectangle", []impl.Entry{entry(1, 9, 9, 1, 1)}, box(9, 9, 1, 1)},
		{"two invalid rectangles", []impl.Entry{entry(1, 9, 9, 1, 1), entry(2, 7, 6, 5, 4)}, box(7, 6, 5, 4)},
		{"coordinates below 0 and beyond 255", []impl.Entry{entry(1, -5, 3, 4, 5), entry(2, 7, -6, 300, 400)}, box(-5, -6, 300, 400)},
		{"a rectangle entirely below 0", []impl.Entry{entry(1, -9, -9, -8, -8)}, box(-9, -9, -8, -8)},
		{"extreme coordinates", []impl.Entry{entry(1, math.MinInt, 0, 0, math.MaxInt), entry(2, 0, math.MinInt, math.MaxInt, 0)}, box(math.MinInt, math.MinInt, math.MaxInt, math.MaxInt)},
		{"extreme coordinates, exchanged", []impl.Entry{entry(1, math.MaxInt, math.MaxInt, math.MinInt, math.MinInt)}, box(math.MaxInt, math.MaxInt, math.MinInt, math.MinInt)},
	}
	for _, c := range cases {
		for _, n := range []impl.Node{leaf(c.l...), inner(c.l...)} {
			if got := impl.BoundOf(n); got != c.want {
				t.Errorf("%s: BoundOf(%v) = %v, want %v", c.name, n, got, c.want)
			}
		}
	}
}

func TestBoundOfOddEntries(t *testing.T) {
	all := oddEntries()
	for size := 1; size < 9; size++ {
		for from := 0; from+size <= len(all); from += 37 {
			l := all[from : from+size]
			if impl.BoundOf(leaf(l...)) != boundOf(l) || impl.BoundOf(inner(l...)) != boundOf(l) {
				t.Fatalf("BoundOf(%v) = %v, want %v", l, impl.BoundOf(leaf(l...)), boundOf(l))
			}
		}
	}
}

func TestEntryAt(t *testing.T) {
	l := entries(4, 1, 4, 999, 1, 0, 7)
	odd := entries(1000, -1, math.MaxInt, math.MinInt, 1<<32+5, -1)
	cases := []struct {
		name    string
		l       []impl.Entry
		n, want int
	}{
		{"the first of two", l, 4, 0},
		{"the first of two, in the middle", l, 1, 1},
		{"once", l, 999, 3},
		{"0", l, 0, 5},
		{"the last, beyond Fan", l, 7, 6},
		{"none", l, 2, -1},
		{"none, -1", l, -1, -1},
		{"none, the greatest number", l, math.MaxInt, -1},
		{"none, the least number", l, math.MinInt, -1},
		{"nil", nil, 4, -1},
		{"nil, 0", nil, 0, -1},
		{"empty", []impl.Entry{}, 4, -1},
		{"beyond the length", l[:3], 999, -1},
		{"beyond the length, empty", l[:0], 4, -1},
		{"a part", l[1:], 4, 1},
		{"adjacent and equal", entries(3, 5, 5), 5, 1},
		{"all equal", entries(5, 5, 5, 5), 5, 0},
		{"the zero Entry", []impl.Entry{entry(1, 0, 0, 0, 0), {}, {}}, 0, 1},
		{"an invalid number", odd, 1000, 0},
		{"an invalid number twice", odd, -1, 1},
		{"the greatest number", odd, math.MaxInt, 2},
		{"the least number", odd, math.MinInt, 3},
		{"equal low bytes only", odd, 5, -1},
		{"an invalid rectangle", []impl.Entry{entry(1, 0, 0, 0, 0), entry(7, 9, 9, 1, 1)}, 7, 1},
	}
	for _, c := range cases {
		if got := impl.EntryAt(c.l, c.n); got != c.want {
			t.Errorf("%s: EntryAt(%v, %d) = %d, want %d", c.name, c.l, c.n, got, c.want)
		}
	}
}

func TestItemsOf(t *testing.T) {
	for _, l := range argumentsOfNodes() {
		if got := impl.ItemsOf(leaf(l...)); !slices.Equal(got, itemsFor(l)) {
			t.Errorf("ItemsOf the leaf %v = %v", l, got)
		}
		if got := impl.ItemsOf(inner(l...)); len(got) != 0 {
			t.Errorf("ItemsOf the inner node %v = %v", l, got)
		}
	}
	if got := impl.ItemsOf(impl.Node{}); len(got) != 0 {
		t.Errorf("ItemsOf the zero Node = %v", got)
	}
}

// isLeafWith reports whether n is a leaf with these items as its entries.
func isLeafWith(n impl.Node, l []impl.Item) bool {
	return n.Leaf && slices.Equal(n.L, entriesFor(l))
}

// checkLeaf checks promise 5 for a leaf that is made from l.
func checkLeaf(t *testing.T, l []impl.Item) {
	t.Helper()
	n := impl.LeafOf(l)
	if !isLeafWith(n, l) {
		t.Fatalf("LeafOf(%v) = %v", l, n)
	}
	if got := impl.ItemsOf(n); !slices.Equal(got, l) {
		t.Fatalf("ItemsOf(LeafOf(%v)) = %v", l, got)
	}
	if !impl.SameNode(impl.LeafOf(impl.ItemsOf(n)), n) {
		t.Fatalf("LeafOf the items of %v is another node", n)
	}
	if got := impl.BoundOf(n); got != boundOf(n.L) {
		t.Fatalf("BoundOf(LeafOf(%v)) = %v", l, got)
	}
	for _, x := range l {
		if got := impl.EntryAt(n.L, x.Id); got != impl.ItemAt(l, x.Id) {
			t.Fatalf("EntryAt the entries of %v, %d = %d", n, x.Id, got)
		}
	}
	if got := impl.NodeOk(n); got != (len(l) <= impl.Fan && impl.ItemsOk(l)) {
		t.Fatalf("NodeOk(LeafOf(%v)) = %v", l, got)
	}
}

func TestAnEmptyLeaf(t *testing.T) {
	for _, l := range [][]impl.Item{nil, {}, itemsWithAllIds()[:0]} {
		checkLeaf(t, l)
		n := impl.LeafOf(l)
		if !n.Leaf || len(n.L) != 0 || !impl.NodeOk(n) || impl.BoundOf(n) != (impl.Box{}) || len(impl.ItemsOf(n)) != 0 {
			t.Errorf("LeafOf no items = %v", n)
		}
		if !impl.SameNode(n, impl.Node{Leaf: true}) || impl.SameNode(n, impl.Node{}) {
			t.Errorf("%v is not the same as an empty leaf, or the same as the zero Node", n)
		}
	}
}

// Promise 5: a leaf has the items that it was made from.
func TestALeafHasItsItems(t *testing.T) {
	lists := [][]impl.Item{
		{item(7, 1, 2, 3, 4)},
		{item(9, 0, 0, 255, 255), item(4, 5, 5, 5, 5)},
		{item(1, 0, 0, 0, 0), item(999, 255, 255, 255, 255)},
		{item(4, 4, 4, 4, 4), item(3, 3, 3, 3, 3), item(2, 2, 2, 2, 2), item(1, 1, 1, 1, 1)},
		itemsWithAllIds()[:impl.Fan],
		itemsWithAllIds()[:impl.Fan+1],
		itemsWithAllIds()[:40],
		itemsWithAllIds(),
		append(itemsWithAllIds(), itemsWithAllIds()...),
		{item(7, 1, 2, 3, 4), item(7, 1, 2, 3, 4)},
		{item(7, 1, 2, 3, 4), item(8, 0, 0, 0, 0), item(7, 5, 6, 7, 8)},
		{{}},
		{item(0, 1, 1, 1, 1), item(1000, 1, 1, 1, 1), item(-1, 1, 1, 1, 1)},
		{item(1, 9, 9, 1, 1), item(2, 0, 0, 256, 0), item(3, 0, -1, 0, 0)},
		{item(math.MaxInt, 0, 0, 0, 0), item(math.MinInt, math.MinInt, math.MaxInt, math.MaxInt, math.MinInt)},
		oddItems(),
	}
	for _, l := range lists {
		checkLeaf(t, l)
	}
}

// Promise 5, for every part of up to nine odd items.
func TestALeafHasItsOddItems(t *testing.T) {
	all := oddItems()
	for size := range 10 {
		for from := 0; from+size <= len(all); from += 13 {
			checkLeaf(t, all[from:from+size])
		}
	}
}

func TestALeafReadsItsItemsOnly(t *testing.T) {
	all := []impl.Item{item(5, 1, 1, 2, 2), item(6, 3, 3, 4, 4), item(5, 9, 9, 9, 9), {}}
	for from := range all {
		for to := from; to <= len(all); to++ {
			checkLeaf(t, all[from:to])
		}
	}
}

func argumentsOfNodes() [][]impl.Entry {
	return [][]impl.Entry{
		nil,
		{},
		entries(7),
		entries(5, 5),
		entries(1, 2, 3, 4),
		entries(0, 47, 48, 999, 1000),
		entries(8, 7, 6, 5, 4, 3, 2, 1),
		entries(math.MinInt, -1, math.MaxInt),
		{entry(1, 9, 9, 1, 1), entry(2, math.MaxInt, 0, math.MinInt, 256)},
		oddEntries()[:70],
	}
}

// No function of the chapter reads or writes beyond the length of a list.
func TestNodesAreLeftAlone(t *testing.T) {
	beyond := entries(5, 5, -1, 1000)
	for _, l := range argumentsOfNodes() {
		full := append(slices.Clone(l), beyond...)
		before := slices.Clone(full)
		part := full[:len(l)]
		for _, kind := range []bool{true, false} {
			n, alone := impl.Node{Leaf: kind, L: part}, impl.Node{Leaf: kind, L: l}
			if impl.NodeOk(n) != impl.NodeOk(alone) || impl.BoundOf(n) != impl.BoundOf(alone) {
				t.Errorf("NodeOk or BoundOf of %v read beyond its length", l)
			}
			if !impl.SameNode(n, alone) || !impl.SameNode(alone, n) || impl.SameNode(n, impl.Node{Leaf: kind, L: full}) {
				t.Errorf("SameNode of %v reads beyond its length", l)
			}
			if !slices.Equal(impl.ItemsOf(n), impl.ItemsOf(alone)) {
				t.Errorf("ItemsOf of %v reads beyond its length", l)
			}
		}
		for _, id := range oddNumbers() {
			if impl.EntryAt(part, id) != impl.EntryAt(l, id) {
				t.Errorf("EntryAt of %v reads beyond its length", l)
			}
		}
		if !slices.Equal(full, before) {
			t.Errorf("%v was changed to %v", before, full)
		}
	}
}

func TestLeafOfLeavesItsArgument(t *testing.T) {
	for _, l := range argumentsOfSorts() {
		full := append(slices.Clone(l), item(5, 1, 2, 3, 4), item(0, 9, 9, 1, 1))
		before := slices.Clone(full)
		if n := impl.LeafOf(full[:len(l)]); !isLeafWith(n, l) {
			t.Errorf("LeafOf a part of %v = %v", full, n)
		}
		if !slices.Equal(full, before) {
			t.Errorf("LeafOf changed %v to %v", before, full)
		}
	}
}

func TestLeafOfSharesNoMemory(t *testing.T) {
	for _, l := range argumentsOfSorts() {
		arg := slices.Clone(l)
		got, other := impl.LeafOf(arg), impl.LeafOf(arg)
		whole := got.L[:cap(got.L)]
		for i := range whole {
			whole[i] = entry(99, 9, 9, 9, 9)
		}
		_ = append(got.L, entry(98, 8, 8, 8, 8))
		if !slices.Equal(arg, l) || !isLeafWith(other, l) || !isLeafWith(impl.LeafOf(arg), l) {
			t.Errorf("a result of LeafOf(%v) shares memory", l)
		}
		for i := range arg {
			arg[i] = item(97, 7, 7, 7, 7)
		}
		if !isLeafWith(other, l) {
			t.Errorf("LeafOf(%v) shares memory with its argument", l)
		}
	}
}

func TestItemsOfSharesNoMemory(t *testing.T) {
	for _, l := range argumentsOfNodes() {
		arg := slices.Clone(l)
		got, other := impl.ItemsOf(leaf(arg...)), impl.ItemsOf(leaf(arg...))
		whole := got[:cap(got)]
		for i := range whole {
			whole[i] = item(99, 9, 9, 9, 9)
		}
		_ = append(got, item(98, 8, 8, 8, 8))
		if !slices.Equal(arg, l) || !slices.Equal(other, itemsFor(l)) || !slices.Equal(impl.ItemsOf(leaf(arg...)), itemsFor(l)) {
			t.Errorf("a result of ItemsOf(%v) shares memory", l)
		}
		for i := range arg {
			arg[i] = entry(97, 7, 7, 7, 7)
		}
		if !slices.Equal(other, itemsFor(l)) {
			t.Errorf("ItemsOf(%v) shares memory with its argument", l)
		}
	}
}
