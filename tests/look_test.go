package tests

import (
	"fmt"
	"math"
	"slices"
	"testing"

	"loop.example/g00492/impl"
)

var everything = box(0, 0, 255, 255)

func validBox(a impl.Box) bool {
	return 0 <= a.X0 && a.X0 <= a.X1 && a.X1 <= 255 && 0 <= a.Y0 && a.Y0 <= a.Y1 && a.Y1 <= 255
}

// meet is the tests' own Meets.
func meet(a, b impl.Box) bool {
	return validBox(a) && validBox(b) && max(a.X0, b.X0) <= min(a.X1, b.X1) && max(a.Y0, b.Y0) <= min(a.Y1, b.Y1)
}

// leavesOf is the tests' own Leaves.
func leavesOf(b impl.Book) []int {
	var out []int
	for _, i := range preOrder(b) {
		if b.L[i].N.Leaf {
			out = append(out, i)
		}
	}
	return out
}

// itemsIn is the tests' own All.
func itemsIn(b impl.Book) []impl.Item {
	var out []impl.Item
	for _, i := range leavesOf(b) {
		out = append(out, itemsFor(b.L[i].N.L)...)
	}
	return out
}

// found is the tests' own Find.
func found(b impl.Book, id int) (impl.Box, bool) {
	for _, x := range itemsIn(b) {
		if x.Id == id {
			return x.R, true
		}
	}
	return impl.Box{}, false
}

// meeting returns the items that meet w.
func meeting(l []impl.Item, w impl.Box) []impl.Item {
	var out []impl.Item
	for _, x := range l {
		if meet(x.R, w) {
			out = append(out, x)
		}
	}
	return out
}

// searched is the tests' own Search and Visited.
func searched(b impl.Book, w impl.Box) (items []impl.Item, pages int) {
	if !validBook(b) {
		return nil, 0
	}
	var visit func(i, depth int)
	visit = func(i, depth int) {
		if depth > 12 {
			return
		}
		pages++
		n := b.L[i].N
		if n.Leaf {
			items = append(items, meeting(itemsFor(n.L), w)...)
			return
		}
		for _, e := range n.L {
			if meet(e.R, w) {
				visit(e.N, depth+1)
			}
		}
	}
	visit(b.Root, 1)
	return items, pages
}

// depthOf is the tests' own Deep: it cuts the path off at most pages.
func depthOf(b impl.Book, i int, most int) int {
	if most == 0 || !pageIsUsed(b, i) {
		return 0
	}
	n := b.L[i].N
	if n.Leaf || len(n.L) == 0 {
		return 1
	}
	return 1 + depthOf(b, n.L[0].N, most-1)
}

// deepest returns the depth of the deepest page of a tree.
func deepest(b impl.Book, i int) int {
	depth := 0
	if !b.L[i].N.Leaf {
		for _, e := range b.L[i].N.L {
			depth = max(depth, deepest(b, e.N))
		}
	}
	return 1 + depth
}

func checkFind(t *testing.T, b impl.Book, ids ...int) {
	t.Helper()
	for _, id := range ids {
		r, ok := impl.Find(b, id)
		if want, exists := found(b, id); r != want || ok != exists {
			t.Fatalf("Find(%v, %d) = %v, %v, want %v, %v", b, id, r, ok, want, exists)
		}
	}
}

func checkSearch(t *testing.T, b impl.Book, windows ...impl.Box) {
	t.Helper()
	for _, w := range windows {
		items, pages := searched(b, w)
		if got := impl.Search(b, w); !slices.Equal(got, items) {
			t.Fatalf("Search(%v, %v) = %v, want %v", b, w, got, items)
		}
		if got := impl.Visited(b, w); got != pages {
			t.Fatalf("Visited(%v, %v) = %d, want %d", b, w, got, pages)
		}
	}
}

// checkLook checks all functions of the chapter for any book.
func checkLook(t *testing.T, b impl.Book, windows ...impl.Box) {
	t.Helper()
	all := itemsIn(b)
	if got := impl.All(b); !slices.Equal(got, all) {
		t.Fatalf("All(%v) = %v, want %v", b, got, all)
	}
	if got := impl.Leaves(b); !slices.Equal(got, leavesOf(b)) {
		t.Fatalf("Leaves(%v) = %v, want %v", b, got, leavesOf(b))
	}
	if got, want := impl.Deep(b), depthOf(b, b.Root, 12); got != want {
		t.Fatalf("Deep(%v) = %d, want %d", b, got, want)
	}
	for _, x := range all {
		checkFind(t, b, x.Id, x.Id-1, x.Id+1)
		checkSearch(t, b, x.R)
	}
	checkFind(t, b, -1, 0, 1, 5, 999, 1000, math.MinInt, math.MaxInt)
	checkSearch(t, b, everything, impl.Box{}, box(3, 1, 3, 1), box(3, 1, 2, 1))
	checkSearch(t, b, windows...)
}

func scatteredBox(next func(n int) int) impl.Box {
	sizes := []int{1, 5, 30, 256}
	x, y := next(256), next(256)
	return box(x, y, min(255, x+next(sizes[next(4)])), min(255, y+next(sizes[next(4)])))
}

// tighten gives all entries of a tree the bounds of their pages.
func tighten(b impl.Book) impl.Book {
	for _, i := range slices.Backward(preOrder(b)) {
		for k, e := range b.L[i].N.L {
			if !b.L[i].N.Leaf {
				b.L[i].N.L[k].R = boundOf(b.L[e.N].N.L)
			}
		}
	}
	return b
}

// tightTree returns a tree whose entries have correct bounds: its pages and
// the numbers of its items are in no order, and all items have different ones.
func tightTree(next func(n int) int, pages int) impl.Book {
	b := scatteredTree(next, pages)
	first := next(999)
	for k, i := range leavesOf(b) {
		for m := range next(5) {
			id := (first+500*(4*k+m))%999 + 1
			b.L[i].N.L = append(b.L[i].N.L, impl.Entry{N: id, R: scatteredBox(next)})
		}
	}
	return tighten(b)
}

// examplesOfTrees returns trees of at most 12 levels with correct bounds.
func examplesOfTrees(seed uint64, each int) []impl.Book {
	next := numbers(seed)
	l := []impl.Book{impl.BookNew()}
	for pages := 1; pages <= 48; pages++ {
		for range each {
			if b := tightTree(next, pages); deepest(b, b.Root) <= 12 {
				l = append(l, b)
			}
		}
	}
	return l
}

// around returns windows that touch a, miss it by one, or lie in it.
func around(a impl.Box) []impl.Box {
	return []impl.Box{
		a,
		box(a.X0, a.Y0, a.X0, a.Y0),
		box(a.X1, a.Y1, a.X1, a.Y1),
		box(0, a.Y0, a.X0, a.Y1),
		box(0, a.Y0, a.X0-1, a.Y1),
		box(a.X1, a.Y1, 255, 255),
		box(a.X1+1, a.Y1, 255, 255),
		box(0, a.Y1, 255, 255),
		box(0, a.Y1+1, 255, 255),
		box(a.X0, a.Y0-1, a.X1, a.Y0-1),
	}
}

func allIds() []int {
	var l []int
	for id := -2; id <= 1002; id++ {
		l = append(l, id)
	}
	return l
}

// Promise 8: over trees whose entries have correct bounds, a search finds
// exactly the items that meet the rectangle, each once.
func TestSearchFindsExactlyTheItemsThatMeet(t *testing.T) {
	next := numbers(80)
	results := 0
	for _, b := range examplesOfTrees(81, 3) {
		all := itemsIn(b)
		if !validBook(b) || !sameCounts(counts(impl.All(b)), counts(all)) {
			t.Fatalf("All(%v) = %v, want the items %v", b, impl.All(b), all)
		}
		windows := append(oddBoxes()[:40], everything)
		for range 20 {
			windows = append(windows, scatteredBox(next))
		}
		for _, x := range all {
			windows = append(windows, around(x.R)...)
		}
		for _, w := range windows {
			got, want := counts(impl.Search(b, w)), counts(meeting(all, w))
			if !sameCounts(got, want) {
				t.Fatalf("Search(%v, %v) = %v, want the items %v", b, w, got, want)
			}
			results += len(got)
		}
		checkSearch(t, b, windows...)
	}
	if results < 50000 {
		t.Errorf("the searches found only %d items", results)
	}
}

// Promise 8: Find returns the rectangle of every item and of no other number.
func TestFindFindsExactlyTheItemsThatExist(t *testing.T) {
	for _, b := range examplesOfTrees(82, 1) {
		rectangles := map[int]impl.Box{}
		for _, x := range itemsIn(b) {
			rectangles[x.Id] = x.R
		}
		if len(rectangles) != len(itemsIn(b)) {
			t.Fatalf("two items of %v have the same number", b)
		}
		for _, id := range allIds() {
			r, ok := impl.Find(b, id)
			if want, exists := rectangles[id]; r != want || ok != exists {
				t.Fatalf("Find(%v, %d) = %v, %v, want %v, %v", b, id, r, ok, want, exists)
			}
		}
		checkFind(t, b, oddNumbers()...)
	}
}

func TestLookOfTrees(t *testing.T) {
	for _, b := range examplesOfTrees(83, 4) {
		checkLook(t, b)
		if !slices.Equal(impl.Search(b, everything), impl.All(b)) {
			t.Fatalf("Search of everything in %v = %v", b, impl.Search(b, everything))
		}
		if got := impl.Visited(b, everything); got != len(b.L) {
			t.Fatalf("Visited(%v, everything) = %d", b, got)
		}
	}
}

// The entries of these trees have arbitrary bounds, and some of their pages
// are deeper than 12.
func TestLookOfTreesWithOtherBounds(t *testing.T) {
	next := numbers(84)
	missed := 0
	for range 500 {
		b := tightTree(next, 1+next(48))
		for i := range b.L {
			for k := range b.L[i].N.L {
				if !b.L[i].N.Leaf && next(3) == 0 {
					b.L[i].N.L[k].R = scatteredBox(next)
				}
			}
		}
		checkLook(t, b, scatteredBox(next), scatteredBox(next))
		if len(impl.Search(b, box(50, 50, 200, 200))) < len(meeting(itemsIn(b), box(50, 50, 200, 200))) {
			missed++
		}
	}
	if missed < 100 {
		t.Errorf("only %d searches miss an item", missed)
	}
}

func TestLookOfAnyBook(t *testing.T) {
	next := numbers(85)
	for range 10000 {
		checkLook(t, scatteredBook(next), scatteredBox(next))
	}
	for _, b := range examplesOfBooks() {
		checkLook(t, b)
	}
}

// part is a range of coordinates, and whether it has one in common with the
// range from 10 to 20.
type part struct {
	from, to int
	common   bool
}

func partsAround() []part {
	return []part{
		{0, 9, false}, {0, 10, true}, {9, 9, false}, {10, 10, true},
		{8, 22, true}, {12, 15, true}, {10, 20, true}, {0, 255, true},
		{20, 20, true}, {21, 21, false}, {20, 255, true}, {21, 255, false},
	}
}

// An item's rectangle and a window may touch at a side or at a corner; the
// window is found in a leaf and below an inner node.
func TestSearchOfTouchingItems(t *testing.T) {
	x := item(7, 10, 110, 20, 120)
	low, high := item(1, 0, 0, 1, 1), item(2, 254, 254, 255, 255)
	alone := book(0, used(leaf(entriesFor([]impl.Item{x})...)))
	below := tighten(book(0, to(1), alone.L[0]))
	between := tighten(book(2, used(leaf(entriesFor([]impl.Item{high, x, low})...)), used(leaf()), to(1, 0)))
	for _, h := range partsAround() {
		for _, v := range partsAround() {
			w := box(h.from, v.from+100, h.to, min(255, v.to+100))
			want := h.common && v.common
			for _, b := range []impl.Book{alone, below, between} {
				got := impl.Search(b, w)
				if slices.Contains(got, x) != want {
					t.Errorf("Search(%v, %v) = %v, want the item: %v", b, w, got, want)
				}
				checkSearch(t, b, w)
			}
		}
	}
}

// The rectangle of an entry and a window may touch at a side or at a corner:
// then the entry's page is visited.
func TestSearchOfTouchingEntries(t *testing.T) {
	far := item(7, 0, 0, 255, 255)
	b := book(0, used(inner(entry(1, 10, 110, 20, 120))), used(leaf(entriesFor([]impl.Item{far})...)))
	for _, h := range partsAround() {
		for _, v := range partsAround() {
			w := box(h.from, v.from+100, h.to, min(255, v.to+100))
			items, pages := 0, 1
			if h.common && v.common {
				items, pages = 1, 2
			}
			if got := impl.Search(b, w); len(got) != items || items == 1 && got[0] != far {
				t.Errorf("Search(%v, %v) = %v, want %d items", b, w, got, items)
			}
			if got := impl.Visited(b, w); got != pages {
				t.Errorf("Visited(%v, %v) = %d, want %d", b, w, got, pages)
			}
		}
	}
}

// All rectangles of four by four points at both ends of the grid, as a window,
// as an item's rectangle and as an entry's.
func TestSearchOfSmallBoxes(t *testing.T) {
	for _, low := range []int{0, 252} {
		all := smallBoxes(low)
		for i, a := range all {
			for k, w := range all {
				c := all[(7*i+13*k)%len(all)]
				x := impl.Item{Id: 7, R: a}
				single := book(0, used(leaf(entriesFor([]impl.Item{x})...)))
				double := book(1, single.L[0], used(inner(impl.Entry{N: 0, R: c})))
				inside := pointsOf(a, low)&pointsOf(w, low) != 0
				down := pointsOf(c, low)&pointsOf(w, low) != 0
				if got := impl.Search(single, w); (len(got) == 1) != inside || len(got) > 1 {
					t.Fatalf("Search(%v, %v) = %v", single, w, got)
				}
				if got := impl.Search(double, w); (len(got) == 1) != (inside && down) || len(got) > 1 {
					t.Fatalf("Search(%v, %v) = %v", double, w, got)
				}
				if got := impl.Visited(double, w); (got == 2) != down || impl.Visited(single, w) != 1 {
					t.Fatalf("Visited(%v, %v) = %d", double, w, got)
				}
			}
		}
	}
}

func TestSearchOfSinglePoints(t *testing.T) {
	l := []impl.Item{item(1, 0, 0, 0, 0), item(2, 255, 255, 255, 255), item(3, 0, 255, 0, 255), item(4, 255, 0, 255, 0)}
	b := book(0, used(leaf(entriesFor(l)...)))
	two := tighten(book(0, to(2, 1), used(leaf(entriesFor(l[:2])...)), used(leaf(entriesFor(l[2:])...))))
	for _, x := range l {
		for _, c := range []impl.Book{b, two} {
			if got := impl.Search(c, x.R); len(got) != 1 || got[0] != x {
				t.Errorf("Search(%v, %v) = %v", c, x.R, got)
			}
		}
	}
	checkLook(t, b, box(1, 0, 254, 255), box(0, 1, 255, 254), box(1, 1, 254, 254))
	checkLook(t, two, box(1, 0, 254, 255), box(0, 1, 255, 254), box(1, 1, 254, 254))
	if got := impl.Search(two, everything); !slices.Equal(got, []impl.Item{l[2], l[3], l[0], l[1]}) {
		t.Errorf("Search of everything = %v", got)
	}
}

// A search for an invalid rectangle visits the root and finds nothing.
func TestSearchOfInvalidRectangles(t *testing.T) {
	wide := book(0, used(inner(impl.Entry{N: 1, R: everything})), used(leaf(impl.Entry{N: 7, R: everything})))
	invalid := []impl.Box{box(3, 0, 2, 9), box(0, 3, 9, 2), box(-1, 0, 9, 9), box(0, -1, 9, 9), box(0, 0, 256, 9), box(0, 0, 9, 256), box(9, 9, 0, 0)}
	for _, w := range append(invalid, oddBoxes()...) {
		checkSearch(t, wide, w)
		if validBox(w) {
			continue
		}
		if got := impl.Search(wide, w); len(got) != 0 || impl.Visited(wide, w) != 1 {
			t.Errorf("Search(%v, %v) = %v, Visited = %d", wide, w, got, impl.Visited(wide, w))
		}
	}
	for _, b := range examplesOfTrees(86, 1) {
		for _, w := range invalid {
			if got := impl.Search(b, w); len(got) != 0 || impl.Visited(b, w) != 1 {
				t.Errorf("Search(%v, %v) = %v, Visited = %d", b, w, got, impl.Visited(b, w))
			}
		}
	}
}

// isBare reports whether nothing is found in b, for which Search visits as
// many pages as its path has.
func isBare(b impl.Book, leaves, pages int) bool {
	r, ok := impl.Find(b, 7)
	return len(impl.All(b)) == 0 && r == impl.Box{} && !ok && len(impl.Search(b, everything)) == 0 && len(impl.Leaves(b)) == leaves && impl.Visited(b, everything) == pages && impl.Deep(b) == pages
}

func TestLookOfBooksWithoutItems(t *testing.T) {
	x := used(leaf(entries(7)...))
	cases := []struct {
		name          string
		b             impl.Book
		leaves, pages int
	}{
		{"no pages", impl.Book{}, 0, 0},
		{"no pages, another root", book(1), 0, 0},
		{"a page beyond the length", impl.Book{L: []impl.Page{x}[:0]}, 0, 0},
		{"a single empty leaf", impl.BookNew(), 1, 1},
		{"a single leaf with an entry beyond the length", book(0, used(leaf(entries(7)[:0]...))), 1, 1},
		{"an empty leaf as page 1", book(1, x, used(leaf())), 1, 1},
		{"a root below", book(-1, x), 0, 0},
		{"a root that does not exist", book(1, x), 0, 0},
		{"a root far away", book(math.MaxInt, x), 0, 0},
		{"a root far below", book(math.MinInt, x), 0, 0},
		{"a root that is unused", book(1, x, unused(impl.Node{})), 0, 0},
		{"an unused root with a leaf", book(0, unused(leaf(entries(7)...)), x), 0, 0},
		{"an unused root with an inner node", book(0, unused(inner(entries(1)...)), x), 0, 0},
	}
	for _, c := range cases {
		if !isBare(c.b, c.leaves, c.pages) {
			t.Errorf("%s: All(%v) = %v, Leaves = %v, Visited = %d, Deep = %d", c.name, c.b, impl.All(c.b), impl.Leaves(c.b), impl.Visited(c.b, everything), impl.Deep(c.b))
		}
		checkLook(t, c.b)
	}
}

// A search of an invalid book finds nothing, whatever All and Find find.
func TestSearchOfInvalidBooks(t *testing.T) {
	windows := []impl.Box{everything, {}, box(0, 0, 9, 9), box(2, 2, 2, 2), box(9, 9, 0, 0)}
	invalid := 0
	for _, c := range changesOfGoodBook() {
		b := goodBook()
		c.fault(&b)
		checkLook(t, b, windows...)
		if c.want {
			continue
		}
		invalid++
		for _, w := range windows {
			if got := impl.Search(b, w); len(got) != 0 || impl.Visited(b, w) != 0 {
				t.Errorf("%s: Search(%v, %v) = %v, Visited = %d", c.name, b, w, got, impl.Visited(b, w))
			}
		}
	}
	if invalid < 40 || len(impl.Search(goodBook(), everything)) != 2 || impl.Visited(goodBook(), everything) != 4 {
		t.Errorf("%d invalid books; Search of the valid one = %v", invalid, impl.Search(goodBook(), everything))
	}
}

func TestItemsWithTheSameNumber(t *testing.T) {
	one, two, three := item(7, 1, 1, 2, 2), item(7, 5, 5, 6, 6), item(8, 3, 3, 4, 4)
	page := func(l ...impl.Item) impl.Page { return used(leaf(entriesFor(l)...)) }
	cases := []struct {
		name  string
		b     impl.Book
		all   []impl.Item
		valid bool
	}{
		{"in one leaf", book(0, page(three, two, one)), []impl.Item{three, two, one}, false},
		{"in one leaf, the same rectangle", book(0, page(one, one)), []impl.Item{one, one}, false},
		{"in one leaf below", tighten(book(0, to(1), page(one, three, two))), []impl.Item{one, three, two}, false},
		{"in two leaves", tighten(book(0, to(1, 2), page(one), page(three, two))), []impl.Item{one, three, two}, true},
		{"in two leaves, backward", tighten(book(0, to(2, 1), page(one), page(three, two))), []impl.Item{three, two, one}, true},
		{"in two leaves, the same rectangle", tighten(book(0, to(2, 1), page(one), page(one))), []impl.Item{one, one}, true},
		{"in a leaf below and one above", tighten(book(3, page(one), to(0), page(two), to(1, 2))), []impl.Item{one, two}, true},
		{"in a leaf above and one below", tighten(book(3, page(one), to(0), page(two), to(2, 1))), []impl.Item{two, one}, true},
		{"in a leaf that is not reachable", book(1, page(one), page(two)), []impl.Item{two}, true},
	}
	for _, c := range cases {
		first := c.all[slices.IndexFunc(c.all, func(x impl.Item) bool { return x.Id == 7 })]
		if r, ok := impl.Find(c.b, 7); r != first.R || !ok || !slices.Equal(impl.All(c.b), c.all) {
			t.Errorf("%s: Find(%v, 7) = %v, %v, All = %v", c.name, c.b, r, ok, impl.All(c.b))
		}
		var want []impl.Item
		if c.valid {
			want = c.all
		}
		if got := impl.Search(c.b, everything); !slices.Equal(got, want) {
			t.Errorf("%s: Search(%v, everything) = %v", c.name, c.b, got)
		}
		checkLook(t, c.b)
	}
}

// Search does not descend where the entry's rectangle does not meet the
// window, but All and Find do.
func TestEntriesThatAreTooSmall(t *testing.T) {
	x, y := item(7, 50, 50, 60, 60), item(9, 10, 10, 12, 12)
	leaf7, leaf9 := used(leaf(entriesFor([]impl.Item{x})...)), used(leaf(entriesFor([]impl.Item{y})...))
	b := book(0, used(inner(entry(1, 50, 50, 54, 60), entry(2, 10, 10, 12, 12))), leaf7, leaf9)
	cases := []struct {
		w     impl.Box
		want  []impl.Item
		pages int
	}{
		{box(54, 50, 60, 60), []impl.Item{x}, 2},
		{box(55, 50, 60, 60), nil, 1},
		{box(60, 60, 60, 60), nil, 1},
		{box(50, 60, 50, 60), []impl.Item{x}, 2},
		{box(12, 12, 50, 50), []impl.Item{x, y}, 3},
		{everything, []impl.Item{x, y}, 3},
	}
	for _, c := range cases {
		if got := impl.Search(b, c.w); !slices.Equal(got, c.want) || impl.Visited(b, c.w) != c.pages {
			t.Errorf("Search(%v, %v) = %v, Visited = %d", b, c.w, got, impl.Visited(b, c.w))
		}
	}
	if r, ok := impl.Find(b, 7); r != x.R || !ok || !slices.Equal(impl.All(b), []impl.Item{x, y}) {
		t.Errorf("Find(%v, 7) = %v, %v, All = %v", b, r, ok, impl.All(b))
	}
	// One level above, too.
	b = book(3, used(inner(impl.Entry{N: 1, R: x.R})), leaf7, leaf9, used(inner(entry(2, 10, 10, 12, 12), entry(0, 0, 0, 255, 49))))
	if got := impl.Search(b, x.R); len(got) != 0 || impl.Visited(b, x.R) != 1 || impl.Visited(b, everything) != 4 {
		t.Errorf("Search(%v, %v) = %v, Visited = %d", b, x.R, got, impl.Visited(b, x.R))
	}
	if r, ok := impl.Find(b, 7); r != x.R || !ok {
		t.Errorf("Find(%v, 7) = %v, %v", b, r, ok)
	}
}

func TestLookOfCirclesAndSharedPages(t *testing.T) {
	x, y := used(leaf(entries(7)...)), used(leaf(entries(9)...))
	cases := []struct {
		name   string
		b      impl.Book
		leaves []int
		deep   int
	}{
		{"the root refers to itself", book(0, to(0)), nil, 12},
		{"the root refers to itself, then to a leaf", book(0, to(0, 1), x), []int{1}, 12},
		{"the root refers to a leaf, then to itself", book(0, to(1, 0), x), []int{1}, 2},
		{"the root refers to leaves and to itself", book(1, x, to(2, 1, 0), y), []int{2, 0}, 2},
		{"a page refers to itself", book(0, to(1, 2), to(1, 3), x, y), []int{3, 2}, 12},
		{"a page refers to itself last", book(0, to(1, 2), to(3, 1), x, y), []int{3, 2}, 3},
		{"two pages refer to each other", book(0, to(1, 3), to(2, 4), to(1), x, y), []int{4, 3}, 12},
		{"a circle of three", book(1, to(3, 1), to(2), to(0, 4), x, y), []int{3, 4}, 4},
		{"a circle of three first", book(1, to(1, 3), to(2), to(0, 4), x, y), []int{3, 4}, 12},
		{"a page refers to the root", book(0, to(1, 2), to(0, 3), x, y), []int{3, 2}, 12},
		{"a circle that is not reached", book(0, to(3), to(2), to(1), x), []int{3}, 2},
		{"a leaf twice in a node", book(0, to(1, 1), x), []int{1}, 2},
		{"a leaf twice in a node, apart", book(0, to(2, 1, 2), x, y), []int{2, 1}, 2},
		{"a leaf of two nodes", book(0, to(1, 2), to(3), to(4, 3), x, y), []int{3, 4}, 3},
		{"a leaf of a node and of its child", book(0, to(1, 2), to(2), x), []int{2}, 3},
		{"an inner page of two nodes", book(0, to(1, 2), to(3), to(3, 5), to(4), x, y), []int{4, 5}, 4},
		{"a leaf has the number of the root as an Id", book(1, used(leaf(entries(1, 2)...)), to(0)), []int{0}, 2},
	}
	for _, c := range cases {
		if !slices.Equal(impl.Leaves(c.b), c.leaves) || impl.Deep(c.b) != c.deep {
			t.Errorf("%s: Leaves(%v) = %v, Deep = %d", c.name, c.b, impl.Leaves(c.b), impl.Deep(c.b))
		}
		var all []impl.Item
		for _, i := range c.leaves {
			all = append(all, itemsFor(c.b.L[i].N.L)...)
		}
		if got := impl.All(c.b); !slices.Equal(got, all) {
			t.Errorf("%s: All(%v) = %v, want %v", c.name, c.b, got, all)
		}
		for _, x := range all {
			if r, ok := impl.Find(c.b, x.Id); r != x.R || !ok {
				t.Errorf("%s: Find(%v, %d) = %v, %v", c.name, c.b, x.Id, r, ok)
			}
		}
		checkLook(t, c.b)
	}
}

// Search visits pages down to depth 12, and Deep counts no more than these;
// the other functions go further.
func TestLookOfChains(t *testing.T) {
	x := item(7, 0, 0, 3, 1)
	for _, count := range []int{1, 2, 10, 11, 12, 13, 14, 48} {
		b := chain(count)
		b.L[count-1] = used(leaf(entriesFor([]impl.Item{x})...))
		b = tighten(b)
		var want []impl.Item
		if count <= 12 {
			want = []impl.Item{x}
		}
		for _, w := range []impl.Box{x.R, everything, box(3, 1, 3, 1)} {
			if got := impl.Search(b, w); !slices.Equal(got, want) || impl.Visited(b, w) != min(count, 12) {
				t.Errorf("%d pages: Search(%v, %v) = %v, Visited = %d", count, b, w, got, impl.Visited(b, w))
			}
		}
		if got := impl.Deep(b); got != min(count, 12) {
			t.Errorf("%d pages: Deep(%v) = %d", count, b, got)
		}
		if r, ok := impl.Find(b, 7); r != x.R || !ok || !slices.Equal(impl.All(b), []impl.Item{x}) || !slices.Equal(impl.Leaves(b), []int{count - 1}) {
			t.Errorf("%d pages: Find(%v, 7) = %v, %v, All = %v, Leaves = %v", count, b, r, ok, impl.All(b), impl.Leaves(b))
		}
		checkLook(t, b)
	}
}

// Every page of a chain also refers to a leaf: those of the last page have one
// level more than the page itself.
func TestLookOfChainsWithLeaves(t *testing.T) {
	for levels := 9; levels <= 14; levels++ {
		b := impl.Book{}
		for i := range levels - 1 {
			b.L = append(b.L, to(2*i+1, 2*i+2), used(leaf(entry(100+i, i, i, 99, 99))))
		}
		b.L = append(b.L, used(leaf(entry(200, 5, 5, 6, 6))))
		b = tighten(b)
		depth := min(levels, 12)
		want := itemsIn(b)[:depth-1]
		if levels <= 12 {
			want = itemsIn(b)
		}
		if got := impl.Search(b, everything); !slices.Equal(got, want) || impl.Visited(b, everything) != 2*depth-1 || impl.Deep(b) != 2 {
			t.Errorf("%d levels: Search = %v, want %v, Visited = %d, Deep = %d", levels, got, want, impl.Visited(b, everything), impl.Deep(b))
		}
		checkLook(t, b)
	}
}

func TestDeep(t *testing.T) {
	x, bare, gone := used(leaf()), used(inner()), unused(impl.Node{})
	cut := func(count int, last impl.Page) impl.Book {
		b := chain(count)
		b.L[count-1] = last
		return b
	}
	cases := []struct {
		name string
		b    impl.Book
		want int
	}{
		{"a leaf", book(0, x), 1},
		{"a leaf with entries", book(0, used(leaf(entries(1)...)), to(0)), 1},
		{"an inner node without entries", book(0, bare), 1},
		{"an inner node without entries below", book(1, bare, to(0)), 2},
		{"an entry beyond the length", book(0, used(inner(entries(1)[:0]...)), x), 1},
		{"first a node without entries, then a leaf", book(0, to(1, 2), bare, x), 2},
		{"first an unused page, then a leaf", book(0, to(1, 2), gone, x), 1},
		{"first an unused page with a leaf", book(0, to(1, 2), unused(leaf()), x), 1},
		{"first an unused page that refers to a leaf", book(0, to(1, 2), unused(inner(entries(2)...)), x), 1},
		{"first page -1, then a leaf", book(0, to(-1, 1), x), 1},
		{"first a page that does not exist, then a leaf", book(0, to(2, 1), x), 1},
		{"first a page far away", book(0, to(math.MaxInt, 1), x), 1},
		{"first a page far below", book(0, to(math.MinInt, 1), x), 1},
		{"first a page beyond the length", impl.Book{L: []impl.Page{to(1), x}[:1]}, 1},
		{"then a page that does not exist", book(0, to(1, 2), x), 2},
		{"below an unused page", book(0, to(1), to(2), gone), 2},
		{"the first path is shorter", book(0, to(3, 1), to(2), x, x), 2},
		{"the first path is longer", book(0, to(1, 3), to(2), x, x), 3},
		{"the first rectangle is invalid", book(0, used(inner(entry(1, 9, 9, 1, 1))), x), 2},
		{"11 pages, the last one without entries", cut(11, bare), 11},
		{"12 pages, the last one without entries", cut(12, bare), 12},
		{"13 pages, the last one without entries", cut(13, bare), 12},
		{"11 pages, the last one unused", cut(11, gone), 10},
		{"12 pages, the last one unused", cut(12, gone), 11},
		{"13 pages, the last one unused", cut(13, gone), 12},
		{"14 pages, the last one unused", cut(14, gone), 12},
		{"12 pages, and one that does not exist", cut(12, to(48)), 12},
		{"13 pages in a circle", cut(13, to(0)), 12},
	}
	for _, c := range cases {
		if got := impl.Deep(c.b); got != c.want {
			t.Errorf("%s: Deep(%v) = %d, want %d", c.name, c.b, got, c.want)
		}
		checkLook(t, c.b)
	}
}

// The numbers and rectangles of items are not checked by All and Find.
func TestInvalidItems(t *testing.T) {
	l := oddEntries()
	b := book(1, used(leaf(l...)), to(0, 0, 7))
	if got := impl.All(b); !slices.Equal(got, itemsFor(l)) {
		t.Errorf("All(%v) = %v", b, got)
	}
	checkFind(t, b, append(oddNumbers(), allIds()...)...)
	if r, ok := impl.Find(b, l[0].N); r != l[0].R || !ok || len(impl.Search(b, everything)) != 0 {
		t.Errorf("Find(.., %d) = %v, %v", l[0].N, r, ok)
	}
}

// The numbers of pages are not those of items.
func TestFindOfPages(t *testing.T) {
	b := book(0, to(5, 7), to(9), used(impl.Node{}), unused(leaf(entries(3)...)), used(leaf(entries(4)...)), used(leaf(entries(6)...)))
	for _, id := range allIds() {
		if r, ok := impl.Find(b, id); ok != (id == 6) || !ok && r != (impl.Box{}) {
			t.Errorf("Find(%v, %d) = %v, %v", b, id, r, ok)
		}
	}
}

// All and Leaves list the leaves as Reach does, and Search follows the entries
// of each node, not the numbers of pages or of items.
func TestOrderOfResults(t *testing.T) {
	x := func(values ...int) impl.Page { return used(leaf(entries(values...)...)) }
	b := tighten(book(4, x(3, 1), to(6, 0), x(2, 9, 4), x(8), to(2, 1, 5, 3), to(7), x(7, 5), x()))
	var ids []int
	for _, y := range impl.All(b) {
		ids = append(ids, y.Id)
	}
	if !slices.Equal(ids, []int{2, 9, 4, 7, 5, 3, 1, 8}) || !slices.Equal(impl.Leaves(b), []int{2, 6, 0, 7, 3}) {
		t.Errorf("All(%v) = %v, Leaves = %v", b, impl.All(b), impl.Leaves(b))
	}
	if got := impl.Search(b, everything); !slices.Equal(got, impl.All(b)) {
		t.Errorf("Search(%v, everything) = %v", b, got)
	}
	if got := impl.Search(b, box(0, 0, 0, 0)); len(got) != 4 || got[0].Id != 2 || got[1].Id != 7 || got[2].Id != 3 || got[3].Id != 8 {
		t.Errorf("Search(%v, the first point) = %v", b, got)
	}
	checkLook(t, b)
}

func TestLookOfVeryLargeBooks(t *testing.T) {
	long := chain(200000)
	long.L[199999] = used(leaf(entries(7, 8)...))
	if r, ok := impl.Find(long, 8); len(impl.All(long)) != 2 || r != entries(7, 8)[1].R || !ok || !slices.Equal(impl.Leaves(long), []int{199999}) {
		t.Errorf("Find in a long chain = %v, %v, Leaves = %v", r, ok, impl.Leaves(long))
	}
	if impl.Deep(long) != 12 || impl.Visited(long, everything) != 0 || len(impl.Search(long, everything)) != 0 {
		t.Errorf("Deep of a long chain = %d, Visited = %d", impl.Deep(long), impl.Visited(long, everything))
	}
	many := slices.Repeat(entries(1, 2, 3, 4), 50000)
	wide := book(0, used(inner(slices.Repeat(entries(1, 0, 1), 50000)...)), used(leaf(many...)))
	if len(impl.All(wide)) != 200000 || impl.Deep(wide) != 2 || !slices.Equal(impl.Leaves(wide), []int{1}) || len(impl.Search(wide, everything)) != 0 {
		t.Errorf("a wide node has %d items, Deep = %d", len(impl.All(wide)), impl.Deep(wide))
	}
	if r, ok := impl.Find(wide, 3); r != entries(1, 2, 3)[2].R || !ok {
		t.Errorf("Find in a wide node = %v, %v", r, ok)
	}
}

// A nil slice and an empty slice are equivalent.
func TestLookWithoutElements(t *testing.T) {
	none := book(0, to(1, 2), used(leaf()), used(leaf(entries(7)...)))
	empty := book(0, to(1, 2), used(impl.Node{Leaf: true, L: []impl.Entry{}}), used(leaf(entries(7)...)))
	bare := book(0, used(impl.Node{}))
	other := book(0, used(impl.Node{L: []impl.Entry{}}))
	for _, pair := range [][2]impl.Book{{none, empty}, {bare, other}, {{}, {L: []impl.Page{}}}} {
		a, b := pair[0], pair[1]
		checkLook(t, a)
		checkLook(t, b)
		if !slices.Equal(impl.All(a), impl.All(b)) || !slices.Equal(impl.Search(a, everything), impl.Search(b, everything)) || !slices.Equal(impl.Leaves(a), impl.Leaves(b)) || impl.Deep(a) != impl.Deep(b) || impl.Visited(a, everything) != impl.Visited(b, everything) {
			t.Errorf("%v and %v are not equivalent", a, b)
		}
	}
}

// The functions neither change a book nor read beyond it.
func TestLookLeavesBooksAlone(t *testing.T) {
	for _, b := range append(examplesOfBooks(), examplesOfTrees(87, 1)...) {
		arg := withRoom(b)
		for _, w := range append(around(box(20, 20, 90, 90)), everything, box(9, 9, 0, 0)) {
			items, pages := searched(b, w)
			if !slices.Equal(impl.Search(arg, w), items) || impl.Visited(arg, w) != pages {
				t.Errorf("Search or Visited of %v reads beyond its length", b)
			}
		}
		if !slices.Equal(impl.All(arg), itemsIn(b)) || !slices.Equal(impl.Leaves(arg), leavesOf(b)) || impl.Deep(arg) != depthOf(b, b.Root, 12) {
			t.Errorf("All, Leaves or Deep of %v reads beyond its length", b)
		}
		for id := range 12 {
			r, ok := impl.Find(arg, id)
			if want, exists := found(b, id); r != want || ok != exists {
				t.Errorf("Find of %v reads beyond its length", b)
			}
		}
		if !sameWithRoom(arg, withRoom(b)) {
			t.Fatalf("a function changed %v", b)
		}
	}
}

// callsOfItems returns the functions that return items.
func callsOfItems() map[string]func(b impl.Book) []impl.Item {
	l := map[string]func(b impl.Book) []impl.Item{"All": impl.All}
	for _, w := range []impl.Box{everything, box(20, 20, 90, 90), {}} {
		l["Search "+fmt.Sprint(w)] = func(b impl.Book) []impl.Item { return impl.Search(b, w) }
	}
	return l
}

// sharesNoMemory checks that what call returns shares no memory with b or with
// another result.
func sharesNoMemory[T comparable](t *testing.T, name string, b impl.Book, junk T, call func(b impl.Book) []T) {
	t.Helper()
	arg := withRoom(b)
	want := slices.Clone(call(copyOf(b)))
	one, two := call(arg), call(arg)
	whole := one[:cap(one)]
	for i := range whole {
		whole[i] = junk
	}
	if !sameWithRoom(arg, withRoom(b)) || !slices.Equal(two, want) || !slices.Equal(call(arg), want) {
		t.Fatalf("%s of %v shares memory", name, b)
	}
	overwriteBook(arg)
	if !slices.Equal(two, want) {
		t.Fatalf("%s of %v shares memory with its argument", name, b)
	}
}

func TestLookSharesNoMemory(t *testing.T) {
	for _, b := range append(examplesOfBooks(), examplesOfTrees(88, 1)...) {
		for name, call := range callsOfItems() {
			sharesNoMemory(t, name, b, item(99, 9, 9, 9, 9), call)
		}
		sharesNoMemory(t, "Leaves", b, 99, impl.Leaves)
	}
}

// The leaves of an argument may share memory, also that beyond their lengths.
func TestLookOfLeavesThatShareMemory(t *testing.T) {
	l := entries(3, 4, 5, 6)
	before := slices.Clone(l)
	b := book(0, to(1, 2, 3), used(leaf(l[:1]...)), used(leaf(l[2:3]...)), used(leaf(l[:4]...)))
	want := itemsFor([]impl.Entry{before[0], before[2], before[0], before[1], before[2], before[3]})
	if got := impl.All(b); !slices.Equal(got, want) {
		t.Errorf("All(%v) = %v, want %v", b, got, want)
	}
	if got := impl.Search(tighten(copyOf(b)), everything); !slices.Equal(got, want) {
		t.Errorf("Search(%v, everything) = %v, want %v", b, got, want)
	}
	impl.Search(b, everything)
	if r, ok := impl.Find(b, 5); r != before[2].R || !ok || !slices.Equal(l, before) {
		t.Errorf("Find(%v, 5) = %v, %v", b, r, ok)
	}
}
