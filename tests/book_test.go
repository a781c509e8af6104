package tests

import (
	"fmt"
	"math"
	"slices"
	"testing"

	"loop.example/g00492/impl"
)

func book(root int, l ...impl.Page) impl.Book {
	return impl.Book{Root: root, L: l}
}

func used(n impl.Node) impl.Page {
	return impl.Page{Used: true, N: n}
}

func unused(n impl.Node) impl.Page {
	return impl.Page{N: n}
}

// to returns a used page with an inner node that refers to these pages.
func to(pages ...int) impl.Page {
	return used(inner(entries(pages...)...))
}

// leaves returns used pages with empty leaves.
func leaves(count int) []impl.Page {
	var l []impl.Page
	for range count {
		l = append(l, used(leaf()))
	}
	return l
}

// copyOf returns a copy of b that shares no memory with it.
func copyOf(b impl.Book) impl.Book {
	out := impl.Book{Root: b.Root}
	for _, p := range b.L {
		p.N.L = slices.Clone(p.N.L)
		out.L = append(out.L, p)
	}
	return out
}

func equalNodes(a, b impl.Node) bool {
	return a.Leaf == b.Leaf && slices.Equal(a.L, b.L)
}

// equalBooks is the tests' own comparison of two books.
func equalBooks(a, b impl.Book) bool {
	if a.Root != b.Root || len(a.L) != len(b.L) {
		return false
	}
	for i := range a.L {
		if a.L[i].Used != b.L[i].Used || !equalNodes(a.L[i].N, b.L[i].N) {
			return false
		}
	}
	return true
}

func pageIsUsed(b impl.Book, i int) bool {
	return i >= 0 && i < len(b.L) && b.L[i].Used
}

// preOrder is the tests' own Reach.
func preOrder(b impl.Book) []int {
	var out []int
	var visit func(i int)
	visit = func(i int) {
		if !pageIsUsed(b, i) || slices.Contains(out, i) {
			return
		}
		out = append(out, i)
		if b.L[i].N.Leaf {
			return
		}
		for _, e := range b.L[i].N.L {
			visit(e.N)
		}
	}
	visit(b.Root)
	return out
}

// closure returns, for each page, whether it is reachable: it repeats all
// references until nothing changes any more.
func closure(b impl.Book) []bool {
	set := make([]bool, len(b.L))
	if !pageIsUsed(b, b.Root) {
		return set
	}
	set[b.Root] = true
	for changed := true; changed; {
		changed = false
		for i, p := range b.L {
			if !set[i] || p.N.Leaf {
				continue
			}
			for _, e := range p.N.L {
				if pageIsUsed(b, e.N) && !set[e.N] {
					set[e.N], changed = true, true
				}
			}
		}
	}
	return set
}

// validBook is the tests' own BookOk.
func validBook(b impl.Book) bool {
	if len(b.L) == 0 || len(b.L) > 48 || !pageIsUsed(b, b.Root) {
		return false
	}
	set := closure(b)
	references := make([]int, len(b.L))
	for i, p := range b.L {
		if p.Used && !validNode(p.N) || !p.Used && (p.N.Leaf || len(p.N.L) > 0) {
			return false
		}
		if !set[i] || p.N.Leaf {
			continue
		}
		for _, e := range p.N.L {
			if !pageIsUsed(b, e.N) {
				return false
			}
			references[e.N]++
		}
	}
	return references[b.Root] == 0 && slices.Max(references) <= 1
}

// checkReach checks promise 7, and that Reach lists what is reachable, in
// pre-order.
func checkReach(t *testing.T, b impl.Book) {
	t.Helper()
	got := impl.Reach(b)
	seen := make([]bool, len(b.L))
	for _, i := range got {
		if i < 0 || i >= len(b.L) {
			t.Fatalf("Reach(%v) = %v lists a page that does not exist", b, got)
		}
		if seen[i] {
			t.Fatalf("Reach(%v) = %v lists page %d twice", b, got, i)
		}
		seen[i] = true
	}
	if !slices.Equal(seen, closure(b)) {
		t.Fatalf("Reach(%v) = %v, but the reachable pages are %v", b, got, closure(b))
	}
	if want := preOrder(b); !slices.Equal(got, want) {
		t.Fatalf("Reach(%v) = %v, want %v", b, got, want)
	}
}

// checkBook checks Reach and BookOk of any book, and SameBook of the book and
// its copy.
func checkBook(t *testing.T, b impl.Book) {
	t.Helper()
	checkReach(t, b)
	if got := impl.BookOk(b); got != validBook(b) {
		t.Fatalf("BookOk(%v) = %v", b, got)
	}
	if !impl.SameBook(b, copyOf(b)) {
		t.Fatalf("%v is not the same as its copy", b)
	}
}

// chain returns a book in which every page refers to the next one, and the
// last page is a leaf.
func chain(count int) impl.Book {
	b := impl.Book{}
	for i := 1; i < count; i++ {
		b.L = append(b.L, to(i))
	}
	b.L = append(b.L, used(leaf()))
	return b
}

// scatteredTree returns a valid book: a tree whose pages are in no order.
func scatteredTree(next func(n int) int, count int) impl.Book {
	places := make([]int, count)
	for i := range places {
		at := next(i + 1)
		places[i] = places[at]
		places[at] = i
	}
	b := book(places[0], leaves(count)...)
	for i := 1; i < count; i++ {
		parent := places[next(i)]
		for len(b.L[parent].N.L) == 4 {
			parent = places[next(i)]
		}
		p := &b.L[parent]
		p.N.Leaf = false
		p.N.L = append(p.N.L, entry(places[i], i, i, i, i))
	}
	return b
}

// scatteredBook returns a book that is most likely invalid.
func scatteredBook(next func(n int) int) impl.Book {
	count := next(9)
	if next(10) == 0 {
		count = 44 + next(9)
	}
	b := impl.Book{Root: next(count+3) - 1}
	for range count {
		p := impl.Page{Used: next(8) > 0, N: impl.Node{Leaf: next(3) == 0}}
		for range next(6) {
			p.N.L = append(p.N.L, entry(next(count+3)-1, 0, 0, next(300), 0))
		}
		b.L = append(b.L, p)
	}
	return b
}

// examplesOfBooks returns books of all sorts, valid and invalid ones.
func examplesOfBooks() []impl.Book {
	next := numbers(70)
	l := []impl.Book{
		{},
		book(0, leaves(1)...),
		book(0, leaves(48)...),
		book(0, leaves(49)...),
		book(2, used(leaf()), unused(impl.Node{}), to(3, 0), used(leaf(entries(7, 999)...))),
		book(0, to(0)),
		book(1, to(1, 0, 1), to(0, 1, 0)),
		book(-1, to(0), to(2), unused(leaf(entries(5)...))),
		book(math.MaxInt, used(inner(entries(math.MaxInt, math.MinInt, -1)...)), unused(inner(entries(0)...))),
		book(math.MinInt, used(inner()), used(leaf(oddEntries()[:9]...))),
		chain(48),
		chain(49),
	}
	for count := 1; count < 48; count += 9 {
		l = append(l, scatteredTree(next, count), scatteredBook(next), scatteredBook(next))
	}
	return l
}

func TestBookNew(t *testing.T) {
	b := impl.BookNew()
	if !equalBooks(b, book(0, used(leaf()))) {
		t.Fatalf("BookNew() = %v", b)
	}
	checkBook(t, b)
	if !impl.BookOk(b) || !slices.Equal(impl.Reach(b), []int{0}) {
		t.Errorf("BookOk(%v) = %v, Reach = %v", b, impl.BookOk(b), impl.Reach(b))
	}
}

func farNumbers(count int) []int {
	return []int{-1, -2, -count, count, count + 1, -count - 1, 1 << 32, 1<<32 + 1, -1 << 32, math.MaxInt, math.MaxInt - 1, math.MinInt, math.MinInt + 1}
}

func TestNodeAt(t *testing.T) {
	for _, b := range examplesOfBooks() {
		for i, p := range b.L {
			if got := impl.NodeAt(b, i); !equalNodes(got, p.N) {
				t.Errorf("NodeAt(%v, %d) = %v", b, i, got)
			}
		}
		for _, i := range farNumbers(len(b.L)) {
			if i >= 0 && i < len(b.L) {
				continue
			}
			if got := impl.NodeAt(b, i); !equalNodes(got, impl.Node{}) {
				t.Errorf("NodeAt(%v, %d) = %v", b, i, got)
			}
		}
	}
}

func TestNodeAtOfUnusedPages(t *testing.T) {
	b := book(0, used(leaf()), unused(impl.Node{}), unused(leaf(entries(5, 6)...)), unused(inner(entries(0)...)))
	for i, want := range []impl.Node{leaf(), {}, leaf(entries(5, 6)...), inner(entries(0)...)} {
		if got := impl.NodeAt(b, i); !equalNodes(got, want) {
			t.Errorf("NodeAt(%v, %d) = %v", b, i, got)
		}
	}
}

func TestPut(t *testing.T) {
	nodes := append(examplesOfNodes(), impl.Node{}, leaf(entries(5, 5, -1, 1000, 4, 3)...), inner(oddEntries()[:9]...))
	for _, b := range examplesOfBooks() {
		for k, n := range nodes {
			for i := range b.L {
				if len(b.L) > 9 && i%7 != k%7 {
					continue
				}
				want := copyOf(b)
				want.L[i] = used(n)
				if got := impl.Put(b, i, n); !equalBooks(got, want) {
					t.Errorf("Put(%v, %d, %v) = %v", b, i, n, got)
				}
			}
			for _, i := range farNumbers(len(b.L)) {
				if i >= 0 && i < len(b.L) {
					continue
				}
				if got := impl.Put(b, i, n); !equalBooks(got, b) {
					t.Errorf("Put(%v, %d, %v) = %v", b, i, n, got)
				}
			}
		}
	}
}

func TestPutMakesAPageUsed(t *testing.T) {
	b := book(1, used(leaf()), unused(impl.Node{}), unused(leaf(entries(5)...)))
	for i := range b.L {
		got := impl.Put(b, i, inner(entries(0)...))
		if !got.L[i].Used || !equalNodes(impl.NodeAt(got, i), inner(entries(0)...)) || got.Root != 1 || len(got.L) != 3 {
			t.Errorf("Put(%v, %d, ..) = %v", b, i, got)
		}
	}
}

func TestAlloc(t *testing.T) {
	x := used(leaf(entries(7)...))
	free := unused(impl.Node{})
	full := slices.Repeat([]impl.Page{x}, 48)
	replaced := func(l []impl.Page, at int, p impl.Page) []impl.Page {
		l = slices.Clone(l)
		l[at] = p
		return l
	}
	cases := []struct {
		name string
		l    []impl.Page
		want int
	}{
		{"no pages", nil, 0},
		{"no pages, with pages beyond the length", []impl.Page{x, free}[:0], 0},
		{"one used page", []impl.Page{x}, 1},
		{"one unused page", []impl.Page{free}, 0},
		{"an unused page in front", []impl.Page{free, x, x}, 0},
		{"an unused page in the middle", []impl.Page{x, free, x}, 1},
		{"an unused page at the end", []impl.Page{x, x, free}, 2},
		{"an unused page beyond the length", []impl.Page{x, x, free}[:2], 2},
		{"two unused pages", []impl.Page{x, free, x, free}, 1},
		{"adjacent unused pages", []impl.Page{x, x, free, free, free}, 2},
		{"unused pages only", []impl.Page{free, free}, 0},
		{"an unused page with a leaf", []impl.Page{x, unused(leaf(entries(5, 6)...)), free}, 1},
		{"an unused page with an inner node", []impl.Page{x, unused(inner(entries(0)...)), x}, 1},
		{"an unused page with an empty leaf", []impl.Page{x, unused(leaf())}, 1},
		{"a used page with the zero Node", []impl.Page{used(impl.Node{}), x}, 2},
		{"MaxPages - 2 pages", full[:46], 46},
		{"MaxPages - 1 pages", full[:47], 47},
		{"MaxPages pages", full, -1},
		{"MaxPages pages, the first unused", replaced(full, 0, free), 0},
		{"MaxPages pages, one unused", replaced(full, 30, free), 30},
		{"MaxPages pages, the last unused", replaced(full, 47, free), 47},
		{"MaxPages + 1 pages", append(slices.Clone(full), x), -1},
		{"MaxPages + 1 pages, the last unused", append(slices.Clone(full), free), 48},
		{"very many pages", slices.Repeat(full, 9), -1},
	}
	for _, c := range cases {
		for _, root := range []int{0, 1, -1, math.MaxInt} {
			b := book(root, c.l...)
			want := copyOf(b)
			if c.want >= 0 {
				want.L = append(want.L[:c.want:c.want], append([]impl.Page{used(leaf())}, want.L[min(c.want+1, len(want.L)):]...)...)
			}
			got, i := impl.Alloc(b)
			if i != c.want || !equalBooks(got, want) {
				t.Errorf("%s: Alloc(%v) = %v, %d", c.name, b, got, i)
			}
		}
	}
}

func TestAllocUntilFull(t *testing.T) {
	b := impl.Book{}
	for want := range 48 {
		var i int
		if b, i = impl.Alloc(b); i != want || len(b.L) != want+1 {
			t.Fatalf("Alloc allocated page %d of %d, want %d", i, len(b.L), want)
		}
		checkBook(t, b)
	}
	for range 3 {
		c, i := impl.Alloc(b)
		if i != -1 || !equalBooks(b, c) || !impl.BookOk(b) {
			t.Fatalf("Alloc of a full book = %v, %d", c, i)
		}
		b = c
	}
	b = impl.Free(b, []int{40, 9, 0})
	for _, want := range []int{0, 9, 40, -1} {
		var i int
		if b, i = impl.Alloc(b); i != want || len(b.L) != 48 {
			t.Fatalf("Alloc allocated page %d of %d, want %d", i, len(b.L), want)
		}
	}
}

func TestAllocOfAnyBook(t *testing.T) {
	next := numbers(71)
	for range 5000 {
		b := scatteredBook(next)
		want, place := copyOf(b), -1
		for i, p := range b.L {
			if !p.Used && place < 0 {
				place = i
				want.L[i] = used(leaf())
			}
		}
		if place < 0 && len(b.L) < 48 {
			place = len(b.L)
			want.L = append(want.L, used(leaf()))
		}
		if got, i := impl.Alloc(b); i != place || !equalBooks(got, want) {
			t.Fatalf("Alloc(%v) = %v, %d, want page %d", b, got, i, place)
		}
	}
}

func TestFree(t *testing.T) {
	b := book(1, used(leaf(entries(5)...)), to(0, 3), unused(impl.Node{}), used(leaf()), unused(leaf(entries(7)...)))
	cases := []struct {
		name string
		l    []int
		want []int
	}{
		{"nil", nil, nil},
		{"empty", []int{}, nil},
		{"one beyond the length", []int{0}[:0], nil},
		{"a leaf", []int{0}, []int{0}},
		{"an empty leaf", []int{3}, []int{3}},
		{"the root", []int{1}, []int{1}},
		{"the root and others", []int{3, 1, 0}, []int{0, 1, 3}},
		{"a page twice", []int{0, 0}, []int{0}},
		{"a page twice, apart", []int{3, 0, 3}, []int{0, 3}},
		{"an unused page", []int{2}, nil},
		{"an unused page with a node", []int{4}, []int{4}},
		{"all pages", []int{0, 1, 2, 3, 4}, []int{0, 1, 3, 4}},
		{"all pages, backward", []int{4, 3, 2, 1, 0}, []int{0, 1, 3, 4}},
		{"numbers without a page", farNumbers(5), nil},
		{"numbers without a page, and a page", append(farNumbers(5), 3), []int{3}},
		{"a page, and numbers without a page", append([]int{3}, farNumbers(5)...), []int{3}},
		{"only the length", []int{3, 0, 1}[:1], []int{3}},
		{"very many", slices.Repeat([]int{3, -1, 5, 0}, 9999), []int{0, 3}},
	}
	for _, c := range cases {
		want := copyOf(b)
		for _, i := range c.want {
			want.L[i] = impl.Page{}
		}
		if got := impl.Free(b, c.l); !equalBooks(got, want) {
			t.Errorf("%s: Free(%v, ..) = %v, want %v", c.name, b, got, want)
		}
	}
	for _, l := range [][]int{nil, {}, {0}, farNumbers(0)} {
		if got := impl.Free(impl.Book{Root: 7}, l); !equalBooks(got, impl.Book{Root: 7}) {
			t.Errorf("Free of a book without pages = %v", got)
		}
	}
}

func TestFreeOfAnyBook(t *testing.T) {
	next := numbers(72)
	for range 5000 {
		b := scatteredBook(next)
		var l []int
		for range next(8) {
			l = append(l, next(len(b.L)+5)-2)
		}
		want := copyOf(b)
		for i := range want.L {
			if slices.Contains(l, i) {
				want.L[i] = impl.Page{}
			}
		}
		if got := impl.Free(b, l); !equalBooks(got, want) {
			t.Fatalf("Free(%v, %v) = %v, want %v", b, l, got, want)
		}
	}
}

func TestReach(t *testing.T) {
	x := used(leaf())
	gone := unused(impl.Node{})
	cases := []struct {
		name string
		b    impl.Book
		want []int
	}{
		{"no pages", impl.Book{}, nil},
		{"no pages, another root", book(1), nil},
		{"a page beyond the length", impl.Book{L: leaves(1)[:0]}, nil},
		{"a leaf", book(0, x), []int{0}},
		{"a negative root", book(-1, x, x), nil},
		{"a root that does not exist", book(2, x, x), nil},
		{"a root far away", book(math.MaxInt, x, x), nil},
		{"a root far below", book(math.MinInt, x, x), nil},
		{"a root that is unused", book(0, gone, x), nil},
		{"an unused root that refers to a page", book(0, unused(inner(entries(1)...)), x), nil},
		{"an inner root without entries", book(0, used(inner()), x), []int{0}},
		{"two leaves, backward", book(0, to(2, 1), x, x), []int{0, 2, 1}},
		{"the root at the end", book(2, x, x, to(0, 1)), []int{2, 0, 1}},
		{"three levels", book(3, x, to(0, 5), x, to(1, 4), to(2), x), []int{3, 1, 0, 5, 4, 2}},
		{"four levels", book(0, to(1), to(2, 5), to(3, 4), x, x, x), []int{0, 1, 2, 3, 4, 5}},
		{"a page that is not referred to", book(0, to(2), x, x), []int{0, 2}},
		{"an unused page", book(0, to(1, 2, 3), x, gone, x), []int{0, 1, 3}},
		{"an unused inner page", book(0, to(1, 2), unused(inner(entries(3)...)), x, x), []int{0, 2}},
		{"a page that does not exist", book(0, to(2, 1, 48), x), []int{0, 1}},
		{"a negative page", book(0, to(-1, 1), x), []int{0, 1}},
		{"pages far away", book(0, to(math.MinInt, math.MaxInt, 1<<32+1, 1), x), []int{0, 1}},
		{"the entries of a leaf", book(0, used(leaf(entries(1, 2)...)), x, x), []int{0}},
		{"the entries of a leaf below", book(0, to(1), used(leaf(entries(2)...)), x), []int{0, 1}},
		{"the root refers to itself", book(0, to(0)), []int{0}},
		{"the root refers to itself and others", book(0, to(0, 1, 0, 2, 0), x, x), []int{0, 1, 2}},
		{"the root refers to itself only", book(1, x, to(1, 1), x), []int{1}},
		{"a page refers to itself", book(0, to(1, 2), to(1, 3), x, x), []int{0, 1, 3, 2}},
		{"every page refers to itself", book(0, to(1, 0), to(2, 1), to(2)), []int{0, 1, 2}},
		{"a page refers to the root", book(0, to(1, 2), to(0), x), []int{0, 1, 2}},
		{"two pages refer to each other", book(0, to(1), to(2), to(1)), []int{0, 1, 2}},
		{"the root is in a circle", book(1, to(1), to(2), to(0)), []int{1, 2, 0}},
		{"a circle of three, from each of them", book(0, to(3, 2, 1), to(2), to(3), to(1)), []int{0, 3, 1, 2}},
		{"a circle that is not reached", book(0, to(3), to(2), to(1), x), []int{0, 3}},
		{"an entry twice", book(0, to(1, 1), x), []int{0, 1}},
		{"an entry twice, apart", book(0, to(2, 1, 2), x, x), []int{0, 2, 1}},
		{"a page of two nodes", book(0, to(1, 2), to(3), to(3, 4), x, x), []int{0, 1, 3, 2, 4}},
		{"a page of a node and of its child", book(0, to(1, 2), to(2), x), []int{0, 1, 2}},
		{"a page of a node, and of a child before it", book(0, to(2, 1), to(2), to(1)), []int{0, 2, 1}},
		{"the first occurrence is deeper", book(0, to(1, 3), to(2), to(3), to(4), x), []int{0, 1, 2, 3, 4}},
		{"more than Fan entries", book(0, to(6, 5, 4, 3, 2, 1), x, x, x, x, x, x), []int{0, 6, 5, 4, 3, 2, 1}},
		{"entries beyond the length", book(0, used(inner(entries(2, 1)[:1]...)), x, x), []int{0, 2}},
		{"an invalid rectangle", book(0, used(inner(entry(1, 9, 9, 1, 1))), x), []int{0, 1}},
	}
	for _, c := range cases {
		if got := impl.Reach(c.b); !slices.Equal(got, c.want) {
			t.Errorf("%s: Reach(%v) = %v, want %v", c.name, c.b, got, c.want)
		}
		checkBook(t, c.b)
	}
}

// Promise 7: no page is reached twice, in any book of three pages whose nodes
// have up to two entries.
func TestNoPageOfASmallBookIsReachedTwice(t *testing.T) {
	pages := []impl.Page{unused(impl.Node{}), used(leaf()), to()}
	for i := range 5 {
		pages = append(pages, to(i-1))
		for k := range 5 {
			pages = append(pages, to(i-1, k-1))
		}
	}
	for _, p := range pages {
		for _, q := range pages {
			for _, r := range pages {
				for root := range 3 {
					checkReach(t, book(root, p, q, r))
				}
			}
		}
	}
}

// Promise 7, and BookOk, for trees: each of their pages is reached once.
func TestNoPageOfATreeIsReachedTwice(t *testing.T) {
	next := numbers(73)
	for count := 1; count <= 48; count++ {
		for range 20 {
			b := scatteredTree(next, count)
			checkBook(t, b)
			if !impl.BookOk(b) || len(impl.Reach(b)) != count {
				t.Fatalf("BookOk(%v) = %v, Reach = %v", b, impl.BookOk(b), impl.Reach(b))
			}
		}
	}
}

// Promise 7, and BookOk, for trees with an entry or a page exchanged.
func TestNoPageOfABrokenTreeIsReachedTwice(t *testing.T) {
	next := numbers(74)
	broken := 0
	for range 6000 {
		b := scatteredTree(next, 2+next(20))
		i := next(len(b.L))
		switch l := b.L[i].N.L; {
		case next(6) == 0:
			b.L[i] = unused(impl.Node{})
		case next(6) == 0:
			b.Root = next(len(b.L))
		case next(6) == 0:
			b.L[i] = used(leaf())
		case len(l) > 0:
			l[next(len(l))].N = next(len(b.L))
		default:
			b.L[i] = to(next(len(b.L)))
		}
		if !validBook(b) {
			broken++
		}
		checkBook(t, b)
	}
	if broken < 2000 || broken > 5500 {
		t.Errorf("%d of 6000 books are invalid", broken)
	}
}

// Promise 7, for arbitrary books.
func TestNoPageOfAnyBookIsReachedTwice(t *testing.T) {
	next := numbers(75)
	for range 30000 {
		checkBook(t, scatteredBook(next))
	}
	for _, b := range examplesOfBooks() {
		checkBook(t, b)
	}
}

func TestReachOfChains(t *testing.T) {
	for _, count := range []int{1, 2, 47, 48, 49, 200} {
		b := chain(count)
		checkBook(t, b)
		if got := impl.BookOk(b); got != (count <= 48) {
			t.Errorf("BookOk of a chain of %d pages = %v", count, got)
		}
		if got := impl.Reach(b); len(got) != count {
			t.Errorf("Reach of a chain of %d pages = %v", count, got)
		}
		b.L[count-1] = to(0)
		checkBook(t, b)
		b.Root = count / 2
		checkBook(t, b)
		if impl.BookOk(b) || len(impl.Reach(b)) != count {
			t.Errorf("BookOk of a circle of %d pages = %v, Reach = %v", count, impl.BookOk(b), impl.Reach(b))
		}
	}
}

// The paths from the root to a page are far more than the pages.
func TestReachOfManyPaths(t *testing.T) {
	forward, complete := impl.Book{}, impl.Book{}
	for i := range 48 {
		forward.L = append(forward.L, to(i+1, i+1, i+2, i+3))
		var all []int
		for k := range 48 {
			all = append(all, (i+5*k)%48)
		}
		complete.L = append(complete.L, to(all...))
	}
	for _, b := range []impl.Book{forward, complete} {
		checkBook(t, b)
		if got := impl.Reach(b); len(got) != 48 {
			t.Errorf("Reach = %v", got)
		}
	}
}

func TestReachOfVeryLargeBooks(t *testing.T) {
	long := chain(200000)
	if got := impl.Reach(long); len(got) != 200000 || got[0] != 0 || got[199999] != 199999 || impl.BookOk(long) {
		t.Errorf("Reach of a long chain has %d pages", len(got))
	}
	wide := book(0, used(inner(slices.Repeat(entries(1, 0, 2, 3), 50000)...)), used(leaf()), to(0, 1, 2))
	if got := impl.Reach(wide); !slices.Equal(got, []int{0, 1, 2}) || impl.BookOk(wide) {
		t.Errorf("Reach of a wide node = %v", got)
	}
}

// goodBook returns a valid book with a page of every sort; page 5 is not
// reachable, and page 4 is unused.
func goodBook() impl.Book {
	return book(2, used(leaf(entries(5, 6)...)), used(leaf()), to(3, 0), to(1), unused(impl.Node{}), used(leaf(entries(999)...)))
}

// changeOfBook is a change of goodBook, and whether the book is valid then.
type changeOfBook struct {
	name  string
	fault func(b *impl.Book)
	want  bool
}

func changesOfGoodBook() []changeOfBook {
	x := used(leaf())
	gone := unused(impl.Node{})
	return []changeOfBook{
		{"no pages", func(b *impl.Book) { b.L = nil }, false},
		{"no pages within the length", func(b *impl.Book) { b.L = b.L[:0] }, false},
		{"one page", func(b *impl.Book) { b.Root, b.L = 0, b.L[:1] }, true},
		{"MaxPages pages", func(b *impl.Book) { b.L = append(b.L, leaves(42)...) }, true},
		{"one more than MaxPages", func(b *impl.Book) { b.L = append(b.L, leaves(43)...) }, false},
		{"one unused page more than MaxPages", func(b *impl.Book) { b.L = append(b.L, make([]impl.Page, 43)...) }, false},
		{"MaxPages pages, many of them unused", func(b *impl.Book) { b.L = append(b.L, make([]impl.Page, 42)...) }, true},
		{"very many pages", func(b *impl.Book) { b.L = append(b.L, leaves(5000)...) }, false},
		{"the root is -1", func(b *impl.Book) { b.Root = -1 }, false},
		{"the root does not exist", func(b *impl.Book) { b.Root = 6 }, false},
		{"the root is far away", func(b *impl.Book) { b.Root = math.MaxInt }, false},
		{"the root is far below", func(b *impl.Book) { b.Root = math.MinInt }, false},
		{"the root is unused", func(b *impl.Book) { b.Root = 4 }, false},
		{"the root becomes unused", func(b *impl.Book) { b.L[2] = gone }, false},
		{"another root", func(b *impl.Book) { b.Root = 3 }, true},
		{"a leaf as the root", func(b *impl.Book) { b.Root = 5 }, true},
		{"a leaf becomes unused", func(b *impl.Book) { b.L[0] = gone }, false},
		{"a leaf below becomes unused", func(b *impl.Book) { b.L[1] = gone }, false},
		{"an inner page becomes unused", func(b *impl.Book) { b.L[3] = gone }, false},
		{"a page that is not reachable becomes unused", func(b *impl.Book) { b.L[5] = gone }, true},
		{"a page is used but not reachable", func(b *impl.Book) { b.L[4] = x }, true},
		{"the last page is missing", func(b *impl.Book) { b.L = b.L[:5] }, true},
		{"an unused page has an empty leaf", func(b *impl.Book) { b.L[4].N.Leaf = true }, false},
		{"an unused page has a leaf", func(b *impl.Book) { b.L[4].N = leaf(entries(7)...) }, false},
		{"an unused page has an inner node", func(b *impl.Book) { b.L[4].N = inner(entries(5)...) }, false},
		{"an unused page has the zero Entry", func(b *impl.Book) { b.L[4].N.L = []impl.Entry{{}} }, false},
		{"an unused page has no entries within the length", func(b *impl.Book) { b.L[4].N.L = entries(1, 2)[:0] }, true},
		{"only Used of a page is false", func(b *impl.Book) { b.L[5].Used = false }, false},
		{"the zero Node is used", func(b *impl.Book) { b.L[1].N = impl.Node{} }, false},
		{"the zero Node is used, not reachable", func(b *impl.Book) { b.L[4].Used = true }, false},
		{"a leaf has a page's number", func(b *impl.Book) { b.L[0].N.L[0].N = 0 }, false},
		{"a leaf has too many entries", func(b *impl.Book) { b.L[0].N.L = entries(1, 2, 3, 4, 5) }, false},
		{"a leaf has Fan entries", func(b *impl.Book) { b.L[0].N.L = entries(1, 2, 3, 4) }, true},
		{"a leaf has an Id twice", func(b *impl.Book) { b.L[0].N.L = entries(7, 7) }, false},
		{"two leaves have an Id", func(b *impl.Book) { b.L[1].N.L = entries(5) }, true},
		{"a leaf has an Id beyond MaxId", func(b *impl.Book) { b.L[0].N.L[1].N = 1000 }, false},
		{"a leaf has an invalid rectangle", func(b *impl.Book) { b.L[0].N.L[1].R.X1 = 256 }, false},
		{"a leaf that is not reachable is invalid", func(b *impl.Book) { b.L[5].N.L[0].R.Y0 = -1 }, false},
		{"the root has an invalid rectangle", func(b *impl.Book) { b.L[2].N.L[0].R.X0 = 255 }, false},
		{"an inner page has an invalid rectangle", func(b *impl.Book) { b.L[3].N.L[0].R.Y1 = 256 }, false},
		{"an inner page has a bound that is too small", func(b *impl.Book) { b.L[2].N.L[1].R = box(0, 0, 0, 0) }, true},
		{"an inner page becomes a leaf", func(b *impl.Book) { b.L[3].N.Leaf = true }, true},
		{"a leaf becomes an inner page", func(b *impl.Book) { b.L[0].N.Leaf = false }, false},
		{"an entry refers to a page that does not exist", func(b *impl.Book) { b.L[2].N.L[1].N = 6 }, false},
		{"an entry refers to the last number", func(b *impl.Book) { b.L[2].N.L[1].N = 47 }, false},
		{"an entry refers to MaxPages", func(b *impl.Book) { b.L[2].N.L[1].N = 48 }, false},
		{"an entry refers to page -1", func(b *impl.Book) { b.L[2].N.L[1].N = -1 }, false},
		{"an entry refers to an unused page", func(b *impl.Book) { b.L[2].N.L[1].N = 4 }, false},
		{"an entry below refers to a page that does not exist", func(b *impl.Book) { b.L[3].N.L[0].N = 7 }, false},
		{"an entry below refers to an unused page", func(b *impl.Book) { b.L[3].N.L[0].N = 4 }, false},
		{"one entry more refers to an unused page", func(b *impl.Book) { b.L[2].N.L = entries(3, 0, 4) }, false},
		{"an entry refers to another page", func(b *impl.Book) { b.L[2].N.L[1].N = 5 }, true},
		{"one entry more refers to another page", func(b *impl.Book) { b.L[2].N.L = entries(3, 0, 5) }, true},
		{"the root refers to itself", func(b *impl.Book) { b.L[2].N.L[1].N = 2 }, false},
		{"the root refers to itself first", func(b *impl.Book) { b.L[2].N.L = entries(2, 3, 0) }, false},
		{"the root refers to itself alone", func(b *impl.Book) { b.L[2].N.L = entries(2) }, false},
		{"an entry below refers to the root", func(b *impl.Book) { b.L[3].N.L[0].N = 2 }, false},
		{"a page refers to itself", func(b *impl.Book) { b.L[3].N.L[0].N = 3 }, false},
		{"two entries of a node refer to a page", func(b *impl.Book) { b.L[2].N.L = entries(3, 0, 0) }, false},
		{"entries of two nodes refer to a leaf", func(b *impl.Book) { b.L[3].N.L[0].N = 0 }, false},
		{"entries of a node and its parent refer to a leaf", func(b *impl.Book) { b.L[2].N.L = entries(3, 0, 1) }, false},
		{"two pages refer to each other", func(b *impl.Book) { b.L[1] = to(3) }, false},
		{"pages refer to each other in a circle", func(b *impl.Book) { b.L[1], b.L[5] = to(5), to(3) }, false},
		{"a page that is not reachable refers to a reachable one", func(b *impl.Book) { b.L[5] = to(0) }, true},
		{"a page that is not reachable refers to the root", func(b *impl.Book) { b.L[5] = to(2) }, true},
		{"a page that is not reachable refers to itself", func(b *impl.Book) { b.L[5] = to(5) }, true},
		{"a page that is not reachable refers to an unused page", func(b *impl.Book) { b.L[5] = to(4) }, true},
		{"a page that is not reachable refers to no page", func(b *impl.Book) { b.L[5] = to(47) }, true},
		{"a page that is not reachable refers beyond MaxPages", func(b *impl.Book) { b.L[5] = to(48) }, false},
		{"a page that is not reachable refers to a page twice", func(b *impl.Book) { b.L[5] = to(1, 1) }, false},
		{"pages that are not reachable refer to each other", func(b *impl.Book) { b.L[4], b.L[5] = to(5, 0), to(4, 0) }, true},
		{"a leaf's Ids are numbers of pages", func(b *impl.Book) { b.L[0].N.L = entries(2, 3, 1, 4) }, true},
	}
}

func TestBookOk(t *testing.T) {
	if !impl.BookOk(goodBook()) {
		t.Fatalf("BookOk(%v) = false", goodBook())
	}
	for _, c := range changesOfGoodBook() {
		b := goodBook()
		c.fault(&b)
		if got := impl.BookOk(b); got != c.want {
			t.Errorf("%s: BookOk(%v) = %v", c.name, b, got)
		}
		checkBook(t, b)
	}
}

func TestBookOkOfSmallBooks(t *testing.T) {
	x := used(leaf())
	cases := []struct {
		b    impl.Book
		want bool
	}{
		{impl.Book{}, false},
		{book(0, impl.Page{}), false},
		{book(0, x), true},
		{book(1, x), false},
		{book(0, used(impl.Node{})), false},
		{book(0, unused(leaf())), false},
		{book(0, to(0)), false},
		{book(0, to(1)), false},
		{book(1, impl.Page{}, x), true},
		{book(1, x, to(0)), true},
		{book(0, x, to(0)), true},
		{book(0, to(1), to(0)), false},
	}
	for _, c := range cases {
		if got := impl.BookOk(c.b); got != c.want {
			t.Errorf("BookOk(%v) = %v", c.b, got)
		}
	}
}

// changesOfBook returns copies of b, each with a difference at one place.
func changesOfBook(b impl.Book) []impl.Book {
	var l []impl.Book
	change := func(f func(c *impl.Book)) {
		c := copyOf(b)
		f(&c)
		l = append(l, c)
	}
	change(func(c *impl.Book) { c.Root++ })
	change(func(c *impl.Book) { c.Root = ^c.Root })
	change(func(c *impl.Book) { c.L = append(c.L, impl.Page{}) })
	change(func(c *impl.Book) { c.L = append(c.L, used(leaf())) })
	for i := range b.L {
		change(func(c *impl.Book) { c.L = slices.Delete(c.L, i, i+1) })
		change(func(c *impl.Book) { c.L[i].Used = !c.L[i].Used })
		change(func(c *impl.Book) { c.L[i].N.Leaf = !c.L[i].N.Leaf })
		change(func(c *impl.Book) { c.L[i].N.L = append(c.L[i].N.L, impl.Entry{}) })
		for k := range b.L[i].N.L {
			change(func(c *impl.Book) { c.L[i].N.L = slices.Delete(c.L[i].N.L, k, k+1) })
			change(func(c *impl.Book) { c.L[i].N.L[k].N++ })
			change(func(c *impl.Book) { c.L[i].N.L[k].R.X0-- })
			change(func(c *impl.Book) { c.L[i].N.L[k].R.Y0 += 256 })
			change(func(c *impl.Book) { c.L[i].N.L[k].R.X1 = ^c.L[i].N.L[k].R.X1 })
			change(func(c *impl.Book) { c.L[i].N.L[k].R.Y1++ })
		}
	}
	return l
}

func TestSameBook(t *testing.T) {
	for _, b := range examplesOfBooks() {
		if !impl.SameBook(b, b) || !impl.SameBook(b, copyOf(b)) {
			t.Errorf("%v is not the same as itself", b)
		}
		for _, c := range changesOfBook(b) {
			if want := equalBooks(b, c); impl.SameBook(b, c) != want || impl.SameBook(c, b) != want {
				t.Errorf("SameBook of %v and %v is not %v", b, c, want)
			}
		}
	}
	all := examplesOfBooks()
	for _, a := range all {
		for _, b := range all {
			if want := equalBooks(a, b); impl.SameBook(a, b) != want {
				t.Errorf("SameBook of %v and %v is not %v", a, b, want)
			}
		}
	}
}

// A nil slice and an empty slice are equivalent.
func TestBooksWithoutElements(t *testing.T) {
	none, empty := impl.Book{}, impl.Book{L: []impl.Page{}}
	few := book(0, used(leaf()), unused(impl.Node{}), used(inner()))
	same := book(0, used(impl.Node{Leaf: true, L: []impl.Entry{}}), unused(impl.Node{L: entries(1)[:0]}), used(impl.Node{L: []impl.Entry{}}))
	for _, pair := range [][2]impl.Book{{none, empty}, {few, same}} {
		a, b := pair[0], pair[1]
		if !impl.SameBook(a, b) || !impl.SameBook(b, a) || impl.BookOk(a) != impl.BookOk(b) || !slices.Equal(impl.Reach(a), impl.Reach(b)) {
			t.Errorf("%v and %v are not equivalent", a, b)
		}
		one, i := impl.Alloc(a)
		two, k := impl.Alloc(b)
		if i != k || !equalBooks(one, two) || !equalBooks(impl.Free(a, nil), impl.Free(b, []int{})) {
			t.Errorf("Alloc or Free of %v and %v are not equivalent", a, b)
		}
		for n := -1; n < 4; n++ {
			if !equalNodes(impl.NodeAt(a, n), impl.NodeAt(b, n)) || !equalBooks(impl.Put(a, n, leaf()), impl.Put(b, n, impl.Node{Leaf: true, L: []impl.Entry{}})) {
				t.Errorf("NodeAt or Put of %v and %v are not equivalent", a, b)
			}
		}
	}
}

// withRoom returns a copy of b with pages beyond its length, and with entries
// beyond the length of each node.
func withRoom(b impl.Book) impl.Book {
	out := impl.Book{Root: b.Root}
	for _, p := range b.L {
		full := append(slices.Clone(p.N.L), entries(0, 1, 2, 5, -1)...)
		p.N.L = full[:len(p.N.L)]
		out.L = append(out.L, p)
	}
	out.L = append(out.L, unused(leaf(entries(7)...)), to(0, 1), impl.Page{})
	out.L = out.L[:len(b.L)]
	return out
}

// sameWithRoom compares two books of withRoom also beyond their lengths.
func sameWithRoom(a, b impl.Book) bool {
	whole := func(b impl.Book) impl.Book {
		out := impl.Book{Root: b.Root, L: slices.Clone(b.L[:len(b.L)+3])}
		for i := range b.L {
			out.L[i].N.L = out.L[i].N.L[:len(out.L[i].N.L)+5]
		}
		return out
	}
	return equalBooks(whole(a), whole(b))
}

// callsOfBooks returns the functions that return a book, for book b.
func callsOfBooks(b impl.Book) map[string]func(b impl.Book) impl.Book {
	l := map[string]func(b impl.Book) impl.Book{
		"Alloc":        func(b impl.Book) impl.Book { c, _ := impl.Alloc(b); return c },
		"Free nil":     func(b impl.Book) impl.Book { return impl.Free(b, nil) },
		"Free no page": func(b impl.Book) impl.Book { return impl.Free(b, []int{-1, len(b.L)}) },
		"Put no page":  func(b impl.Book) impl.Book { return impl.Put(b, len(b.L), leaf(entries(5)...)) },
	}
	for i := range b.L {
		l["Free "+fmt.Sprint(i)] = func(b impl.Book) impl.Book { return impl.Free(b, []int{i}) }
		l["Put "+fmt.Sprint(i)] = func(b impl.Book) impl.Book { return impl.Put(b, i, leaf(entries(5)...)) }
	}
	return l
}

// overwriteBook writes to all memory of b.
func overwriteBook(b impl.Book) {
	whole := b.L[:cap(b.L)]
	for i := range whole {
		l := whole[i].N.L[:cap(whole[i].N.L)]
		for k := range l {
			l[k] = entry(99, 9, 9, 9, 9)
		}
		whole[i] = unused(inner(entries(98)...))
	}
}

// The functions neither change a book nor read beyond it.
func TestBooksAreLeftAlone(t *testing.T) {
	for _, b := range examplesOfBooks() {
		arg := withRoom(b)
		for name, call := range callsOfBooks(b) {
			if got, want := call(arg), call(copyOf(b)); !equalBooks(got, want) {
				t.Errorf("%s of %v reads beyond its length: %v", name, b, got)
			}
			if !sameWithRoom(arg, withRoom(b)) {
				t.Fatalf("%s changed %v", name, b)
			}
		}
		if !slices.Equal(impl.Reach(arg), preOrder(b)) || impl.BookOk(arg) != validBook(b) || !impl.SameBook(arg, b) || !impl.SameBook(b, arg) {
			t.Errorf("Reach, BookOk or SameBook of %v reads beyond its length", b)
		}
		for i := -1; i <= len(b.L)+1; i++ {
			if !equalNodes(impl.NodeAt(arg, i), impl.NodeAt(b, i)) {
				t.Errorf("NodeAt of %v reads beyond its length", b)
			}
		}
		if !sameWithRoom(arg, withRoom(b)) {
			t.Fatalf("a function changed %v", b)
		}
	}
}

// No result shares memory with its argument or with another result.
func TestBooksShareNoMemory(t *testing.T) {
	for _, b := range examplesOfBooks() {
		for name, call := range callsOfBooks(b) {
			arg := withRoom(b)
			want := copyOf(call(copyOf(b)))
			one, two := call(arg), call(arg)
			overwriteBook(one)
			if !sameWithRoom(arg, withRoom(b)) || !equalBooks(two, want) {
				t.Fatalf("%s of %v shares memory", name, b)
			}
			overwriteBook(arg)
			if !equalBooks(two, want) {
				t.Fatalf("%s of %v shares memory with its argument", name, b)
			}
		}
	}
	one, two := impl.BookNew(), impl.BookNew()
	overwriteBook(one)
	if !equalBooks(two, book(0, used(leaf()))) || !equalBooks(impl.BookNew(), two) {
		t.Errorf("two results of BookNew share memory")
	}
}

// The pages of an argument may share memory, those of a result must not.
func TestPagesOfAResultShareNoMemory(t *testing.T) {
	l := entries(3, 4, 5, 6)
	arg := book(0, used(inner(l...)), used(leaf(l...)), used(leaf(l[:2]...)), used(leaf(l[2:]...)), unused(leaf(l...)))
	for name, call := range callsOfBooks(arg) {
		want := call(copyOf(arg))
		for i := range want.L {
			got := call(arg)
			whole := got.L[i].N.L[:cap(got.L[i].N.L)]
			for k := range whole {
				whole[k] = entry(99, 9, 9, 9, 9)
			}
			_ = append(got.L[i].N.L, entry(98, 8, 8, 8, 8))
			got.L[i] = want.L[i]
			if !equalBooks(got, want) {
				t.Fatalf("the pages of a result of %s share memory", name)
			}
		}
	}
}

func TestPutSharesNoMemory(t *testing.T) {
	full := entries(5, 6, 7)
	before := slices.Clone(full)
	b := book(0, used(leaf()), used(leaf()))
	want := leaf(before[:2]...)
	one := impl.Put(b, 1, leaf(full[:2]...))
	two := impl.Put(one, 0, leaf(full[:2]...))
	overwriteBook(one)
	if !slices.Equal(full, before) || !equalBooks(two, book(0, used(want), used(want))) {
		t.Errorf("Put shares memory with a node or with a book: %v", two)
	}
	for i := range full {
		full[i] = impl.Entry{}
	}
	if !equalBooks(two, book(0, used(want), used(want))) {
		t.Errorf("Put shares memory with a node: %v", two)
	}
	_ = append(two.L[0].N.L, entry(9, 9, 9, 9, 9))
	if !equalNodes(two.L[1].N, want) {
		t.Errorf("the pages of a result of Put share memory")
	}
}

func TestNodeAtSharesNoMemory(t *testing.T) {
	for _, b := range examplesOfBooks() {
		arg := withRoom(b)
		for i, p := range b.L {
			one, two := impl.NodeAt(arg, i), impl.NodeAt(arg, i)
			whole := one.L[:cap(one.L)]
			for k := range whole {
				whole[k] = entry(99, 9, 9, 9, 9)
			}
			if !sameWithRoom(arg, withRoom(b)) || !equalNodes(two, p.N) || !equalNodes(impl.NodeAt(arg, i), p.N) {
				t.Fatalf("NodeAt(%v, %d) shares memory", b, i)
			}
		}
	}
}

func TestReachSharesNoMemory(t *testing.T) {
	for _, b := range examplesOfBooks() {
		one, two := impl.Reach(b), impl.Reach(b)
		whole := one[:cap(one)]
		for i := range whole {
			whole[i] = 99
		}
		if !slices.Equal(two, preOrder(b)) || !slices.Equal(impl.Reach(b), two) {
			t.Errorf("two results of Reach(%v) share memory", b)
		}
	}
}

func TestFreeLeavesItsList(t *testing.T) {
	full := []int{3, 1, 3, -1, 0, 2}
	before := slices.Clone(full)
	b := book(0, leaves(4)...)
	got := impl.Free(b, full[:4])
	if !slices.Equal(full, before) || !equalBooks(got, book(0, used(leaf()), impl.Page{}, used(leaf()), impl.Page{})) {
		t.Errorf("Free of %v = %v", full[:4], got)
	}
}
