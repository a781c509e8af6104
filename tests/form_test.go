package tests

import (
	"bytes"
	"fmt"
	"math"
	"slices"
	"testing"

	"loop.example/g00492/impl"
)

// bytesOfEntry is the tests' own encoding of a valid entry.
func bytesOfEntry(e impl.Entry) []byte {
	return []byte{byte(e.N / 256), byte(e.N % 256), byte(e.R.X0), byte(e.R.Y0), byte(e.R.X1), byte(e.R.Y1)}
}

// bytesOfNode is the tests' own encoding of a node.
func bytesOfNode(n impl.Node) []byte {
	if !validNode(n) {
		return nil
	}
	b := make([]byte, 25)
	b[0] = byte(len(n.L))
	if n.Leaf {
		b[0] = byte(16 + len(n.L))
	}
	for i, e := range n.L {
		copy(b[1+6*i:], bytesOfEntry(e))
	}
	return b
}

// isNodeOf is the tests' own decoding of 25 bytes: the bytes are compared with
// the encoding of the only node that they could be the encoding of.
func isNodeOf(b []byte) (impl.Node, bool) {
	if len(b) != 25 || b[0]&15 > 4 || b[0] > 20 {
		return impl.Node{}, false
	}
	n := impl.Node{Leaf: b[0] >= 16}
	for i := range int(b[0] % 16) {
		x := b[1+6*i:]
		n.L = append(n.L, entry(256*int(x[0])+int(x[1]), int(x[2]), int(x[3]), int(x[4]), int(x[5])))
	}
	if !bytes.Equal(bytesOfNode(n), b) {
		return impl.Node{}, false
	}
	return n, true
}

// isNoNode reports whether n and ok are what GetNode returns for no encoding.
func isNoNode(n impl.Node, ok bool) bool {
	return !ok && !n.Leaf && len(n.L) == 0
}

// checkBytes checks GetNode of any bytes, and promise 6 if they are decoded.
func checkBytes(t *testing.T, b []byte) {
	t.Helper()
	want, valid := isNodeOf(b)
	got, ok := impl.GetNode(b)
	if !valid {
		if !isNoNode(got, ok) {
			t.Fatalf("GetNode(%v) = %v, %v, but it encodes no node", b, got, ok)
		}
		return
	}
	if !ok || got.Leaf != want.Leaf || !slices.Equal(got.L, want.L) {
		t.Fatalf("GetNode(%v) = %v, %v, want %v", b, got, ok, want)
	}
	if again := impl.PutNode(got); !bytes.Equal(again, b) {
		t.Fatalf("PutNode of the node of %v = %v", b, again)
	}
}

// checkForm checks promise 6 for a node, and that an invalid one has no encoding.
func checkForm(t *testing.T, n impl.Node) {
	t.Helper()
	b := impl.PutNode(n)
	if !bytes.Equal(b, bytesOfNode(n)) {
		t.Fatalf("PutNode(%v) = %v, want %v", n, b, bytesOfNode(n))
	}
	got, ok := impl.GetNode(b)
	if !validNode(n) {
		if len(b) != 0 || !isNoNode(got, ok) {
			t.Fatalf("the invalid node %v is encoded as %v and decoded as %v, %v", n, b, got, ok)
		}
		return
	}
	if !ok || !impl.SameNode(got, n) || got.Leaf != n.Leaf || !slices.Equal(got.L, n.L) {
		t.Fatalf("GetNode(PutNode(%v)) = %v, %v", n, got, ok)
	}
}

// endsOfBoxes returns the valid rectangles with every coordinate at or beside
// an end of its range.
func endsOfBoxes() []impl.Box {
	var l []impl.Box
	ends := []int{0, 1, 127, 128, 254, 255}
	for _, x0 := range ends {
		for _, y0 := range ends {
			for _, x1 := range ends {
				for _, y1 := range ends {
					if x0 <= x1 && y0 <= y1 {
						l = append(l, box(x0, y0, x1, y1))
					}
				}
			}
		}
	}
	return l
}

// examplesOfNodes returns valid nodes of both kinds and of every size.
func examplesOfNodes() []impl.Node {
	l := []impl.Node{leaf()}
	for size := 1; size <= 4; size++ {
		l = append(l,
			leaf(entries(258, 1, 999, 47)[:size]...),
			leaf(entries(999, 998, 997, 996)[:size]...),
			inner(entries(0, 47, 1, 46)[:size]...),
			inner(entries(7, 3, 5, 4)[:size]...))
	}
	return l
}

func TestSizeOfNodes(t *testing.T) {
	if impl.NodeSize != 25 {
		t.Errorf("NodeSize = %d", impl.NodeSize)
	}
}

func TestPutNode(t *testing.T) {
	cases := []struct {
		n    impl.Node
		want []byte
	}{
		{leaf(), []byte{16}},
		{leaf(entry(258, 1, 2, 3, 4)), []byte{17, 1, 2, 1, 2, 3, 4}},
		{inner(entry(0, 0, 0, 0, 0)), []byte{1}},
		{inner(entry(47, 5, 6, 255, 255)), []byte{1, 0, 47, 5, 6, 255, 255}},
		{leaf(entry(999, 255, 255, 255, 255), entry(1, 0, 0, 0, 0)), []byte{18, 3, 231, 255, 255, 255, 255, 0, 1}},
		{inner(entry(9, 0, 1, 2, 3), entry(4, 8, 8, 8, 9), entry(0, 7, 0, 7, 255)), []byte{3, 0, 9, 0, 1, 2, 3, 0, 4, 8, 8, 8, 9, 0, 0, 7, 0, 7, 255}},
		{
			leaf(entry(4, 1, 1, 2, 2), entry(3, 3, 3, 4, 4), entry(512, 5, 5, 6, 6), entry(255, 7, 7, 8, 9)),
			[]byte{20, 0, 4, 1, 1, 2, 2, 0, 3, 3, 3, 4, 4, 2, 0, 5, 5, 6, 6, 0, 255, 7, 7, 8, 9},
		},
		{
			inner(entry(40, 1, 1, 2, 2), entry(3, 3, 3, 4, 4), entry(20, 5, 5, 6, 6), entry(10, 7, 7, 8, 9)),
			[]byte{4, 0, 40, 1, 1, 2, 2, 0, 3, 3, 3, 4, 4, 0, 20, 5, 5, 6, 6, 0, 10, 7, 7, 8, 9},
		},
	}
	for _, c := range cases {
		want := append(c.want, make([]byte, 25-len(c.want))...)
		if got := impl.PutNode(c.n); !bytes.Equal(got, want) {
			t.Errorf("PutNode(%v) = %v, want %v", c.n, got, want)
		}
		checkForm(t, c.n)
		checkBytes(t, want)
	}
}

func TestPutNodeOfInvalidNodes(t *testing.T) {
	lists := [][]impl.Entry{
		entries(1, 2, 3, 4, 5),
		entries(1, 2, 3, 4, 5, 6),
		entriesFor(itemsWithAllIds()),
		entries(5, 5),
		entries(1, 2, 3, 1),
		entries(-1),
		entries(1000),
		entries(0, 999),
		entries(1, 65536+2),
		entries(math.MaxInt),
		entries(math.MinInt),
		{entry(1, 2, 1, 1, 2)},
		{entry(1, 0, 0, 1, 1), entry(2, 0, 2, 1, 1)},
		{entry(1, 0, 0, 256, 1)},
		{entry(1, 0, 0, 1, 256)},
		{entry(1, -1, 0, 1, 1)},
		{entry(1, 0, -1, 1, 1)},
		{entry(1, 256, 256, 257, 257)},
		{entry(1, math.MinInt, 0, math.MaxInt, 0)},
	}
	invalid := []impl.Node{{}, inner(), inner(entries(1)[:0]...), leaf(entries(0)...), leaf(entries(7, 0)...), inner(entries(48)...), inner(entries(0, 258)...), inner(entries(999)...)}
	for _, l := range lists {
		invalid = append(invalid, leaf(l...), inner(l...))
	}
	for _, n := range invalid {
		if got := impl.PutNode(n); len(got) != 0 {
			t.Errorf("PutNode(%v) = %v", n, got)
		}
		checkForm(t, n)
	}
}

// Promise 6: a node is decoded from its encoding.
func TestNodesAreDecodedFromTheirEncodings(t *testing.T) {
	for _, n := range examplesOfNodes() {
		if !validNode(n) {
			t.Fatalf("the example %v is invalid", n)
		}
		checkForm(t, n)
	}
	for n := -70; n <= 1100; n++ {
		for _, l := range [][]impl.Entry{entries(n), entries(n, 7), entries(7, 9, n), entries(7, 5, 9, n)} {
			checkForm(t, leaf(l...))
			checkForm(t, inner(l...))
		}
	}
}

// Promise 6, for coordinates at the ends of their range, in every entry.
func TestNodesWithEndsOfBoxesAreDecoded(t *testing.T) {
	for _, a := range endsOfBoxes() {
		for i := range 4 {
			l := entries(4, 3, 2, 1)
			l[i].R = a
			checkForm(t, leaf(l...))
			checkForm(t, inner(l...))
			checkForm(t, leaf(l[:i+1]...))
			checkForm(t, inner(l[:i+1]...))
		}
	}
}

// Promise 6, for every list of up to six entries that clash.
func TestEveryShortListIsDecoded(t *testing.T) {
	all := []impl.Entry{entry(0, 0, 0, 0, 0), entry(1, 0, 0, 0, 0), entry(1, 7, 7, 8, 8), entry(47, 1, 2, 3, 4), entry(48, 1, 2, 3, 4), entry(2, 3, 3, 2, 2)}
	eachShortList(all, func(l []impl.Entry) {
		checkForm(t, leaf(l...))
		checkForm(t, inner(l...))
	})
}

func TestOddNodesAreNotEncoded(t *testing.T) {
	for _, e := range oddEntries() {
		for _, l := range [][]impl.Entry{{e}, {e, entry(7, 0, 0, 0, 0)}, {entry(7, 0, 0, 0, 0), e}} {
			checkForm(t, leaf(l...))
			checkForm(t, inner(l...))
		}
	}
}

func TestBytesAfterTheLastEntry(t *testing.T) {
	for _, n := range examplesOfNodes() {
		b := impl.PutNode(n)
		for at := 1 + 6*len(n.L); at < 25; at++ {
			for x := 1; x < 256; x++ {
				b[at] = byte(x)
				if got, ok := impl.GetNode(b); !isNoNode(got, ok) {
					t.Fatalf("GetNode(%v) = %v, %v", b, got, ok)
				}
			}
			b[at] = 0
		}
		if got, ok := impl.GetNode(b); !ok || !impl.SameNode(got, n) {
			t.Fatalf("GetNode(%v) = %v, %v", b, got, ok)
		}
	}
}

// Two bytes that are not zero must not make up for each other.
func TestTwoBytesAfterTheLastEntry(t *testing.T) {
	for _, n := range examplesOfNodes() {
		b := impl.PutNode(n)
		for i := 1 + 6*len(n.L); i < 25; i++ {
			for j := i + 1; j < 25; j++ {
				for _, x := range [][2]byte{{1, 255}, {128, 128}, {1, 1}, {170, 85}} {
					b[i], b[j] = x[0], x[1]
					checkBytes(t, b)
				}
				b[j] = 0
			}
			b[i] = 0
		}
	}
}

func TestEveryFirstByte(t *testing.T) {
	bodies := [][]byte{make([]byte, 24), bytes.Repeat([]byte{255}, 24)}
	for _, n := range examplesOfNodes() {
		bodies = append(bodies, impl.PutNode(n)[1:])
	}
	for _, body := range bodies {
		for first := range 256 {
			checkBytes(t, append([]byte{byte(first)}, body...))
		}
	}
	full := impl.PutNode(leaf(entries(1, 2, 3, 4)...))
	for first := range 256 {
		full[0] = byte(first)
		if _, ok := impl.GetNode(full); ok != (first == 4 || first == 20) {
			t.Errorf("with the first byte %d, GetNode of four entries: %v", first, ok)
		}
	}
}

func TestFirstBytesOfNoEntries(t *testing.T) {
	for first := range 256 {
		b := append([]byte{byte(first)}, make([]byte, 24)...)
		n, ok := impl.GetNode(b)
		switch first {
		case 16:
			if !ok || !n.Leaf || len(n.L) != 0 {
				t.Errorf("GetNode of an empty leaf = %v, %v", n, ok)
			}
		case 1:
			if !ok || n.Leaf || !slices.Equal(n.L, []impl.Entry{{}}) {
				t.Errorf("GetNode of the zero Entry = %v, %v", n, ok)
			}
		default:
			if !isNoNode(n, ok) {
				t.Errorf("GetNode of %d and zeros = %v, %v", first, n, ok)
			}
		}
	}
}

func TestGetNodeOfOtherLengths(t *testing.T) {
	for _, n := range examplesOfNodes() {
		b := impl.PutNode(n)
		for size := range 25 {
			checkBytes(t, b[:size])
			checkBytes(t, bytes.Clone(b[:size]))
			checkBytes(t, b[25-size:25:25])
		}
		for _, more := range [][]byte{{0}, {1}, {0, 0}, make([]byte, 6), make([]byte, 25), b, bytes.Repeat(b, 9)} {
			checkBytes(t, append(bytes.Clone(b), more...))
		}
		checkBytes(t, append([]byte{0}, b...))
		checkBytes(t, append([]byte{16}, b...))
	}
	for _, b := range [][]byte{nil, {}, {16}, {1}, {0}, make([]byte, 24), make([]byte, 25), make([]byte, 26)} {
		if n, ok := impl.GetNode(b); !isNoNode(n, ok) {
			t.Errorf("GetNode(%v) = %v, %v", b, n, ok)
		}
	}
}

func TestGetNodeOfInvalidEntries(t *testing.T) {
	body := func(first byte, l ...impl.Entry) []byte {
		b := []byte{first + byte(len(l))}
		for _, e := range l {
			b = append(b, bytesOfEntry(e)...)
		}
		return append(b, make([]byte, 25-len(b))...)
	}
	cases := []struct {
		name        string
		l           []impl.Entry
		leaf, inner bool
	}{
		{"a number twice", entries(5, 5), false, false},
		{"a number twice, apart", entries(6, 7, 8, 6), false, false},
		{"a number twice, at the end", entries(1, 2, 3, 3), false, false},
		{"an entry twice", []impl.Entry{entry(5, 1, 1, 1, 1), entry(5, 1, 1, 1, 1)}, false, false},
		{"0 is a page only", entries(0), false, true},
		{"0 is a page only, as the last", entries(1, 2, 3, 0), false, true},
		{"48 is an Id only", entries(48), true, false},
		{"258 is an Id only", entries(258), true, false},
		{"999 is an Id only, as the last", entries(1, 2, 3, 999), true, false},
		{"1000 is neither", entries(1000), false, false},
		{"1000 is neither, as the last", entries(1, 1000), false, false},
		{"65535 is neither", entries(65535), false, false},
		{"1 and 47 are both", entries(47, 1), true, true},
		{"X0 beyond X1", []impl.Entry{entry(1, 2, 1, 1, 2)}, false, false},
		{"Y0 beyond Y1", []impl.Entry{entry(1, 1, 2, 2, 1)}, false, false},
		{"X0 beyond X1, in the last", []impl.Entry{entry(1, 0, 0, 0, 0), entry(2, 255, 0, 254, 0)}, false, false},
		{"Y0 beyond Y1, in the first", []impl.Entry{entry(1, 0, 1, 0, 0), entry(2, 0, 0, 0, 0)}, false, false},
	}
	for _, c := range cases {
		if n, ok := impl.GetNode(body(16, c.l...)); ok != c.leaf {
			t.Errorf("%s: GetNode of a leaf = %v, %v", c.name, n, ok)
		}
		if n, ok := impl.GetNode(body(0, c.l...)); ok != c.inner {
			t.Errorf("%s: GetNode of an inner node = %v, %v", c.name, n, ok)
		}
		checkBytes(t, body(16, c.l...))
		checkBytes(t, body(0, c.l...))
	}
}

// Every change of a single byte of an encoding is decoded as another node, or
// not at all.
func TestEveryChangeOfOneByte(t *testing.T) {
	for _, n := range examplesOfNodes() {
		b := impl.PutNode(n)
		for at := range b {
			old := b[at]
			for x := range 256 {
				b[at] = byte(x)
				checkBytes(t, b)
				if got, ok := impl.GetNode(b); ok && byte(x) != old && impl.SameNode(got, n) {
					t.Fatalf("two encodings of %v, one of them %v", n, b)
				}
			}
			b[at] = old
		}
	}
}

// Promise 6, the other way round: arbitrary bytes are decoded only if they are
// the encoding of what they are decoded to.
func TestArbitraryBytes(t *testing.T) {
	next := numbers(6)
	firsts := []byte{0, 1, 2, 3, 4, 5, 15, 16, 17, 18, 19, 20, 21, 31, 32, 36, 48, 255}
	decoded := 0
	for range 60000 {
		b := make([]byte, 25)
		b[0] = firsts[next(len(firsts))]
		for i := range min(int(b[0]%16), 4) {
			x, y := next(200), next(200)
			copy(b[1+6*i:], []byte{byte(next(24) / 22), byte(next(60)), byte(x), byte(y), byte(x + next(56) - next(20)/19*100), byte(y + next(56))})
		}
		if next(8) == 0 {
			b[next(25)] = byte(next(256))
		}
		checkBytes(t, b)
		if _, ok := impl.GetNode(b); ok {
			decoded++
		}
	}
	if decoded < 6000 || decoded > 50000 {
		t.Errorf("%d of 60000 are encodings: this tests too little", decoded)
	}
	for range 20000 {
		b := make([]byte, next(60))
		for i := range b {
			b[i] = byte(next(256))
		}
		checkBytes(t, b)
	}
}

func TestPutEntry(t *testing.T) {
	cases := []struct {
		e    impl.Entry
		want []byte
	}{
		{impl.Entry{}, []byte{0, 0, 0, 0, 0, 0}},
		{entry(258, 1, 2, 3, 4), []byte{1, 2, 1, 2, 3, 4}},
		{entry(0, 9, 8, 9, 8), []byte{0, 0, 9, 8, 9, 8}},
		{entry(255, 0, 0, 255, 255), []byte{0, 255, 0, 0, 255, 255}},
		{entry(256, 255, 255, 255, 255), []byte{1, 0, 255, 255, 255, 255}},
		{entry(1000, 7, 6, 8, 9), []byte{3, 232, 7, 6, 8, 9}},
		{entry(4660, 10, 20, 30, 40), []byte{18, 52, 10, 20, 30, 40}},
		{entry(65534, 0, 1, 0, 1), []byte{255, 254, 0, 1, 0, 1}},
		{entry(impl.MaxTwo, 127, 128, 128, 254), []byte{255, 255, 127, 128, 128, 254}},
		{entry(-1, 1, 2, 3, 4), nil},
		{entry(impl.MaxTwo+1, 1, 2, 3, 4), nil},
		{entry(65536+258, 1, 2, 3, 4), nil},
		{entry(1<<32+1, 1, 2, 3, 4), nil},
		{entry(math.MaxInt, 1, 2, 3, 4), nil},
		{entry(math.MinInt, 1, 2, 3, 4), nil},
		{entry(1, 4, 2, 3, 4), nil},
		{entry(1, 1, 5, 3, 4), nil},
		{entry(1, -1, 2, 3, 4), nil},
		{entry(1, 1, -1, 3, 4), nil},
		{entry(1, 1, 2, 256, 4), nil},
		{entry(1, 1, 2, 3, 256), nil},
		{entry(1, 257, 258, 259, 260), nil},
		{entry(0, 0, 0, -1, 0), nil},
		{entry(impl.MaxTwo, 0, 0, 0, -1), nil},
		{entry(1, math.MinInt, 0, math.MaxInt, 0), nil},
		{entry(1, 0, math.MaxInt, 0, math.MinInt), nil},
		{entry(-1, 9, 9, 1, 1), nil},
	}
	for _, c := range cases {
		got := impl.PutEntry(c.e)
		if !bytes.Equal(got, c.want) {
			t.Errorf("PutEntry(%v) = %v, want %v", c.e, got, c.want)
		}
		back, ok := impl.GetEntry(got, 0)
		if c.want == nil && (ok || back != impl.Entry{}) || c.want != nil && (!ok || back != c.e) {
			t.Errorf("GetEntry(PutEntry(%v)) = %v, %v", c.e, back, ok)
		}
	}
}

func TestEveryEntryIsDecoded(t *testing.T) {
	boxes := endsOfBoxes()
	for n := -300; n <= impl.MaxTwo+300; n++ {
		e := impl.Entry{N: n, R: boxes[(n+300)%len(boxes)]}
		b := impl.PutEntry(e)
		if n < 0 || n > 65535 {
			if len(b) != 0 {
				t.Fatalf("PutEntry(%v) = %v", e, b)
			}
			continue
		}
		if !bytes.Equal(b, bytesOfEntry(e)) {
			t.Fatalf("PutEntry(%v) = %v", e, b)
		}
		if got, ok := impl.GetEntry(b, 0); !ok || got != e {
			t.Fatalf("GetEntry(%v) = %v, %v", b, got, ok)
		}
	}
}

func TestPutEntryOfOddEntries(t *testing.T) {
	for _, e := range oddEntries() {
		want := e.N >= 0 && e.N <= 65535 && impl.BoxOk(e.R)
		if got := impl.PutEntry(e); want != (len(got) == 6) || !want && len(got) != 0 {
			t.Errorf("PutEntry(%v) = %v", e, got)
		}
	}
}

func TestGetEntryAtOffsets(t *testing.T) {
	e, f := entry(258, 1, 2, 3, 4), entry(0, 5, 6, 7, 8)
	b := append(append([]byte{9}, bytesOfEntry(e)...), bytesOfEntry(f)...)
	cases := []struct {
		b    []byte
		at   int
		want impl.Entry
		ok   bool
	}{
		{b, 1, e, true},
		{b, 7, f, true},
		{b[1:], 0, e, true},
		{b[1:7], 0, e, true},
		{b[7:], 0, f, true},
		{[]byte{1, 2, 3, 4, 5, 6, 7, 8}, 0, entry(258, 3, 4, 5, 6), true},
		{[]byte{1, 2, 3, 4, 5, 6, 7, 8}, 1, entry(515, 4, 5, 6, 7), true},
		{[]byte{1, 2, 3, 4, 5, 6, 7, 8}, 2, entry(772, 5, 6, 7, 8), true},
		{[]byte{1, 2, 3, 4, 5, 6, 7, 8}, 3, impl.Entry{}, false},
		{b, 8, impl.Entry{}, false},
		{b, 12, impl.Entry{}, false},
		{b, 13, impl.Entry{}, false},
		{b, 14, impl.Entry{}, false},
		{b, -1, impl.Entry{}, false},
		{b, -6, impl.Entry{}, false},
		{b, -13, impl.Entry{}, false},
		{b, math.MaxInt, impl.Entry{}, false},
		{b, math.MaxInt - 5, impl.Entry{}, false},
		{b, math.MaxInt - 6, impl.Entry{}, false},
		{b, math.MinInt, impl.Entry{}, false},
		{b, math.MinInt + 6, impl.Entry{}, false},
		{b, 1 << 32, impl.Entry{}, false},
		{b, 1<<32 + 1, impl.Entry{}, false},
		{nil, 0, impl.Entry{}, false},
		{nil, -6, impl.Entry{}, false},
		{nil, -1, impl.Entry{}, false},
		{nil, math.MinInt, impl.Entry{}, false},
		{nil, math.MaxInt, impl.Entry{}, false},
		{[]byte{}, 0, impl.Entry{}, false},
		{make([]byte, 5), 0, impl.Entry{}, false},
		{make([]byte, 5), -1, impl.Entry{}, false},
		{make([]byte, 6), 0, impl.Entry{}, true},
		{make([]byte, 6), 1, impl.Entry{}, false},
		{roomy(b[:6]), 1, impl.Entry{}, false},
		{b[:6], 1, impl.Entry{}, false},
		{b[:0], 0, impl.Entry{}, false},
	}
	for _, c := range cases {
		if got, ok := impl.GetEntry(c.b, c.at); got != c.want || ok != c.ok {
			t.Errorf("GetEntry(%v, %d) = %v, %v, want %v, %v", c.b, c.at, got, ok, c.want, c.ok)
		}
	}
}

// A node's numbers are not the limit of an entry's.
func TestGetEntryOfAnyNumber(t *testing.T) {
	for n := range 65536 {
		b := []byte{byte(n / 256), byte(n % 256), 0, 1, 254, 255}
		if got, ok := impl.GetEntry(b, 0); !ok || got != entry(n, 0, 1, 254, 255) {
			t.Fatalf("GetEntry(%v) = %v, %v", b, got, ok)
		}
	}
}

func TestGetEntryOfRectangles(t *testing.T) {
	some := []byte{0, 1, 2, 127, 128, 254, 255}
	for _, x0 := range some {
		for _, y0 := range some {
			for _, x1 := range some {
				for _, y1 := range some {
					b := []byte{9, 1, 2, x0, y0, x1, y1, 9}
					got, ok := impl.GetEntry(b, 1)
					want := entry(258, int(x0), int(y0), int(x1), int(y1))
					valid := x0 <= x1 && y0 <= y1
					if ok != valid || valid && got != want || !valid && got != (impl.Entry{}) {
						t.Fatalf("GetEntry(%v, 1) = %v, %v", b, got, ok)
					}
				}
			}
		}
	}
}

// argumentsOfForms returns encodings, and bytes that are none.
func argumentsOfForms() [][]byte {
	l := [][]byte{nil, {}, {16}, make([]byte, 24), make([]byte, 25), bytes.Repeat([]byte{255}, 25), bytes.Repeat([]byte{1}, 40)}
	for _, n := range examplesOfNodes() {
		b := bytesOfNode(n)
		l = append(l, b, b[:24], append(bytes.Clone(b), 0))
	}
	return l
}

// The functions that decode neither change their bytes nor read beyond them,
// and what they return is not memory of the bytes.
func TestBytesAreLeftAlone(t *testing.T) {
	for _, b := range argumentsOfForms() {
		arg := roomy(b)
		n, ok := impl.GetNode(arg)
		alone, okAlone := impl.GetNode(bytes.Clone(b))
		if ok != okAlone || !impl.SameNode(n, alone) {
			t.Errorf("GetNode(%v) depends on the spare capacity: %v, %v", b, n, ok)
		}
		for at := -1; at <= len(b); at++ {
			e, ok := impl.GetEntry(arg, at)
			alone, okAlone := impl.GetEntry(bytes.Clone(b), at)
			if ok != okAlone || e != alone {
				t.Errorf("GetEntry(%v, %d) depends on the spare capacity: %v, %v", b, at, e, ok)
			}
		}
		all := arg[:cap(arg)]
		if !bytes.Equal(all, roomy(b)[:cap(arg)]) {
			t.Errorf("%v was changed to %v", b, all)
		}
		for i := range all {
			all[i] = 99
		}
		if !impl.SameNode(n, alone) {
			t.Errorf("the node of %v shares memory with it", b)
		}
	}
}

func TestPutNodeLeavesItsArgument(t *testing.T) {
	beyond := entries(5, 5, -1, 1000)
	for _, l := range argumentsOfNodes() {
		full := append(slices.Clone(l), beyond...)
		before := slices.Clone(full)
		for _, kind := range []bool{true, false} {
			got := impl.PutNode(impl.Node{Leaf: kind, L: full[:len(l)]})
			if !bytes.Equal(got, bytesOfNode(impl.Node{Leaf: kind, L: l})) {
				t.Errorf("PutNode reads beyond the length of %v: %v", l, got)
			}
		}
		if !slices.Equal(full, before) {
			t.Errorf("PutNode changed %v to %v", before, full)
		}
	}
}

func TestFormsShareNoMemory(t *testing.T) {
	overwrite := func(b []byte) {
		whole := b[:cap(b)]
		for i := range whole {
			whole[i] = 99
		}
	}
	for _, n := range append(examplesOfNodes(), impl.Node{}, leaf(entries(0)...)) {
		name := fmt.Sprint(n)
		one, two := impl.PutNode(n), impl.PutNode(n)
		overwrite(one)
		if !bytes.Equal(two, bytesOfNode(n)) || !bytes.Equal(impl.PutNode(n), two) {
			t.Errorf("two results of PutNode(%s) share memory", name)
		}
		a, _ := impl.GetNode(two)
		b, _ := impl.GetNode(two)
		whole := a.L[:cap(a.L)]
		for i := range whole {
			whole[i] = entry(99, 9, 9, 9, 9)
		}
		if c, _ := impl.GetNode(two); !impl.SameNode(b, c) || !bytes.Equal(two, bytesOfNode(n)) {
			t.Errorf("two results of GetNode of the bytes of %s share memory", name)
		}
	}
	for _, e := range []impl.Entry{{}, entry(258, 1, 2, 3, 4), entry(-1, 0, 0, 0, 0)} {
		one, two := impl.PutEntry(e), impl.PutEntry(e)
		want := bytes.Clone(two)
		overwrite(one)
		if !bytes.Equal(two, want) || !bytes.Equal(impl.PutEntry(e), want) {
			t.Errorf("two results of PutEntry(%v) share memory", e)
		}
	}
}
